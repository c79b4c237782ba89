/- Several texts in one: VecI, SkyB, SkyC, SkyD, SkyE, SkyF, SkyG, TurnMath, VecJ, BlM. -/
import Derived.OwnWalk
import Derived.Laws.OwnMore
import Derived.Test.YtdchjcadhlkpfaaGreatDoorD1
namespace Go.Proofs.YtdchjcadhlkpfaaGreatDoor
set_option linter.unusedVariables false
set_option linter.unusedSimpArgs false
set_option maxRecDepth 100000
set_option maxHeartbeats 8000000
section
open Go.Value renaming int → J
open Go.IntKind renaming i64 → Z
open Go.RowKit Go.Sort
theorem mE(x y z:Int)(w:World):
  Calls Tryz.prog 183 #[.agg #[J Z x,J Z y,J Z z]] w fun e w'=>e=.returned (J Z (bG x y z x y z))∧Below w.heap.size w w':=by
 go_enter Tryz.func183,Tryz.ntmps183;go_wp2_with fail;refine(oT x y z x y z _).mono ?_;rintro e w1 ⟨rfl,hB1⟩;have hB:Below w.heap.size w w1:=ak (an _ _) hB1;go_wp2_with fail;go_ret;exact⟨rfl,hB⟩
theorem jW(x y z:Int)(w:World):
  Calls Tryz.prog 162 #[.agg #[J Z x,J Z y,J Z z]] w fun e w'=>e=.returned (.bool (dy x y z))∧Below w.heap.size w w':=by
 go_enter Tryz.func162,Tryz.ntmps162;go_wp2_with fail;refine(de x y z _).mono ?_;rintro e w1 ⟨rfl,hB1⟩;have hB:Below w.heap.size w w1:=ak (an _ _) hB1;have va:aK w1 w.heap.size x y z:=(aM w x y z _).kept (by simp) hB1;clear hB1;obtain⟨ca0,ca1,ca2⟩:=va;cases ha:aA x y z
 ·go_wp2_with fail;go_ret;exact⟨by simp[dy,ha],hB⟩
 ·go_wp2_with fail;refine(mI 1800 x y z _ (by omega) (by omega)).mono ?_;rintro e w2 ⟨rfl,hB2⟩;replace hB:=ak hB hB2;go_wp2_with fail;go_ret;exact⟨by simp[dy,ha],hB⟩
theorem gd(x y z:Int)(w:World):
  Calls Tryz.prog 172 #[.agg #[J Z x,J Z y,J Z z]] w fun e w'=>e=.returned (.bool (aU x y z))∧Below w.heap.size w w':=by
 go_enter Tryz.func172,Tryz.ntmps172;go_wp2_with fail;refine(de x y z _).mono ?_;rintro e w1 ⟨rfl,hB1⟩;have hB:Below w.heap.size w w1:=ak (an _ _) hB1;have va:aK w1 w.heap.size x y z:=(aM w x y z _).kept (by simp) hB1;clear hB1;obtain⟨ca0,ca1,ca2⟩:=va;cases ha:aA x y z
 ·go_wp2_with fail;go_ret;exact⟨by simp[aU,ha],hB⟩
 ·go_wp2_with fail;refine(mI 10 x y z _ (by omega) (by omega)).mono ?_;rintro e w2 ⟨rfl,hB2⟩;replace hB:=ak hB hB2;go_wp2_with fail;go_ret;exact⟨by simp[aU,ha],hB⟩
theorem rA(n:Int)(w:World):
  Calls Tryz.prog 211 #[J Z n] w fun e w'=>e=.returned (J Z (pM n))∧w'=w:=by
 by_cases h:n<0
 ·have HS:=yz (show pM n=wrap64 (wrap64 (-n)*n) by unfold pM;rw[if_pos h]);go_enter Tryz.func211,Tryz.ntmps211;go_wp2;go_ret;exact⟨by rw[yy HS];rfl,rfl⟩
 ·have HS:=yz (show pM n=wrap64 (n*n) by unfold pM;rw[if_neg h]);go_enter Tryz.func211,Tryz.ntmps211;go_wp2;go_ret;exact⟨by rw[yy HS];rfl,rfl⟩
theorem oK(a b:Int)(w:World):
  Calls Tryz.prog 207 #[J Z a,J Z b] w fun e w'=>e=.returned (J Z (ic a b))∧w'=w:=by
 by_cases h:a<b
 ·have HS:=yz (show ic a b = -1 by unfold ic;rw[if_pos h]);go_enter Tryz.func207,Tryz.ntmps207;go_wp2;go_ret;exact⟨by rw[yy HS];rfl,rfl⟩
 ·by_cases h2:b<a
  ·have HS:=yz (show ic a b=1 by unfold ic;rw[if_neg h,if_pos h2]);go_enter Tryz.func207,Tryz.ntmps207;go_wp2;go_ret;exact⟨by rw[yy HS];rfl,rfl⟩
  ·have HS:=yz (show ic a b=0 by unfold ic;rw[if_neg h,if_neg h2]);go_enter Tryz.func207,Tryz.ntmps207;go_wp2;go_ret;exact⟨by rw[yy HS];rfl,rfl⟩
theorem pk(a1 a2 a3 b1 b2 b3:Int)(w:World):
  Calls Tryz.prog 212 #[.func (.func 183) #[.agg #[J Z a1,J Z a2,J Z a3]] #[],.func (.func 183) #[.agg #[J Z b1,J Z b2,J Z b3]] #[]] w fun e w'=>e=.returned (J Z (wrap64 (bG a1 a2 a3 a1 a2 a3*bG b1 b2 b3 b1 b2 b3)))∧Below w.heap.size w w':=by
 go_enter Tryz.func212,Tryz.ntmps212;go_wp2_with fail;refine(mE a1 a2 a3 _).mono ?_;rintro e w1 ⟨rfl,hB1⟩;go_wp2_with fail;refine(mE b1 b2 b3 _).mono ?_;rintro e w2 ⟨rfl,hB2⟩;go_wp2_with fail;go_ret;exact⟨rfl,ak hB1 hB2⟩
variable {x y z:Int}
theorem gj(h:dy x y z=true):aA x y z=true∧aR 1800 x y z=true:=by simpa[dy] using h
theorem fp(h:aU x y z=true):aA x y z=true∧aR 10 x y z=true:=by simpa[aU] using h
theorem FH{a1 a2 a3 b1 b2 b3 c1 c2 c3 d1 d2 d3:Int}(ha:dy a1 a2 a3=true)(hb:dy b1 b2 b3=true)(hc:aU c1 c2 c3=true)(hd:aU d1 d2 d3=true):
  oq a1 a2 a3 b1 b2 b3 c1 c2 c3 d1 d2 d3=ic (wrap64 (pM (ur a1 a2 a3 b1 b2 b3)*wrap64 (bG c1 c2 c3 c1 c2 c3*bG d1 d2 d3 d1 d2 d3))) (wrap64 (pM (ur c1 c2 c3 d1 d2 d3)*wrap64 (bG a1 a2 a3 a1 a2 a3*bG b1 b2 b3 b1 b2 b3))):=by
 have h:=Cx (gj ha).2 (gj hb).2 (fp hc).2 (fp hd).2;unfold oq ur;rw[(gj ha).1,(gj hb).1,(fp hc).1,(fp hd).1,ha,hb,hc,hd,if_pos (by rfl),if_pos (by rfl),if_pos (by rfl),h.1,h.2]
end
section
open Go.Value renaming int → J
open Go.IntKind renaming i64 → Z
open Go.RowKit
def oh(w:World)(b o:Nat)(s:St):Prop:=w.cell? ⟨b,o,none⟩=some (J Z s.1)∧w.cell? ⟨b,o+1,none⟩=some (J Z s.2.1)∧w.cell? ⟨b,o+2,none⟩=some (J Z s.2.2.1)∧w.cell? ⟨b,o+3,none⟩=some (J Z s.2.2.2)
def aZ(w:World)(a:Option Addr)(L:List St)(n:Nat):Prop:=n=0∨∃b o,a=some ⟨b,o,none⟩∧b<w.heap.size∧∀i,i<n→oh w b (o+i*4) (stA L i)
variable {w w':World}
theorem oh.kept{b o:Nat}{s:St}(h:oh w b o s)(hb:b<w.heap.size)(hB:Below w.heap.size w w'):oh w' b o s:=by
 obtain⟨h0,h1,h2,h3⟩:=h;exact⟨by rw[hB.cell (p:=⟨b,o,none⟩) hb];exact h0,by rw[hB.cell (p:=⟨b,o+1,none⟩) hb];exact h1,by rw[hB.cell (p:=⟨b,o+2,none⟩) hb];exact h2,by rw[hB.cell (p:=⟨b,o+3,none⟩) hb];exact h3⟩
theorem aZ.kept{a:Option Addr}{L:List St}{n:Nat}(h:aZ w a L n)(hB:Below w.heap.size w w'):aZ w' a L n:=by
 rcases h with h | ⟨b,o,ha,hb,hc⟩
 ·exact .inl h
 ·exact .inr ⟨b,o,ha,Nat.lt_of_lt_of_le hb hB.size,fun i hi=>(hc i hi).kept hb hB⟩
theorem vlt{b:Nat}{x y z:Int}(h:aK w b x y z):b<w.heap.size:=World.block_lt_of_cell? w _ h.1
theorem aZ.less{a:Option Addr}{L:List St}{n m:Nat}(h:aZ w a L n)(hm:m≤n):aZ w a L m:=by
 rcases h with h | ⟨b,o,ha,hb,hc⟩
 ·exact .inl (by omega)
 ·exact .inr ⟨b,o,ha,hb,fun i hi=>hc i (by omega)⟩
theorem ph(L:List St)(n:Nat)(x y z:Int)(a:Option Addr)(c:Nat)(w:World)(hn:n≤1048576)(hS:aZ w a L n):
  Calls Tryz.prog 173 #[.agg #[J Z x,J Z y,J Z z],.slice a n c] w fun e w'=>e=.returned (.bool (fq L (0,x,y,z) n))∧Below w.heap.size w w':=by
 rcases hS with rfl | ⟨b,o,rfl,hb,hc⟩
 ·go_enter Tryz.func173,Tryz.ntmps173;go_wp2_with fail;refine wp_loop_rounds 1 ?_;rw[rounds_succ];go_wp2_with fail;go_ret;exact⟨rfl,an _ _⟩
 ·have HC:=yz hc;clear hc;have V0:=yz (aM w x y z 72);have B0:=yz (an w (.cells #[J Z x,J Z y,J Z z] 72));go_enter Tryz.func173,Tryz.ntmps173;go_wp2_with fail;go_loopw [9] (fun i wr=>∃k:Nat,k≤n∧i=J Z k∧Hid (ow L (0,x,y,z) k)∧Hid (Below w.heap.size w wr)∧Hid (aK wr w.heap.size x y z)) (fun i _=>n-(intOf i).toNat)
  case atStart=>exact⟨0,by omega,rfl,yz (fun j hj=>absurd hj (Nat.not_lt_zero _)),B0,V0⟩
  case round=>
   obtain⟨k,hk,rfl,HF,HB,HV⟩:=hrel;by_cases hkn:k<n
   ·obtain⟨⟨s1,s2,s3,s4⟩,hs⟩:∃s,stA L k=s:=⟨_,rfl⟩
    have hst:=((yy HC) k hkn).kept hb (yy HB);rw[hs]at hst;obtain⟨c0,c1,c2,c3⟩:=hst;have HS:=yz hs;clear hs;have V1:=yz (aK.alloc (yy HV) (vlt (yy HV)) (.cells #[J Z s1,J Z s2,J Z s3,J Z s4] 74));have B1:=yz ((yy HB).alloc (yy HB).size (.cells #[J Z s1,J Z s2,J Z s3,J Z s4] 74));obtain⟨v0,v1,v2⟩:=yy V1;go_wp2_with fail;refine(jf x y z s2 s3 s4 _).mono ?_;rintro e w2 ⟨rfl,hx⟩;have HV2:=yz ((yy V1).kept (vlt (yy V1)) hx);have HB2:=ax B1 hx;clear hx c0 c1 c2 c3 v0 v1 v2 V1 B1 HB HV;have HR:Hid (pp (0,x,y,z) (stA L k)=eb x y z s2 s3 s4):=yz (by rw[yy HS];rfl);cases hq:eb x y z s2 s3 s4
    ·rw[hq]at HR;go_wp2_with fail;go_roundw
     case rel=>exact⟨k+1,by omega,by go_num,yz (tr (yy HF) (yy HR)),HB2,HV2⟩
     case measure=>simp[intOf];omega
    ·rw[hq]at HR;go_wp2_with fail;go_ret;exact⟨by rw[ua hkn (yy HR)];rfl,yy HB2⟩
   ·have hkn':k=n:=by omega
    subst hkn';go_wp2_with fail;go_ret;exact⟨by rw[rS (yy HF)];rfl,yy HB⟩
end
section
open Go.Value renaming int → J
open Go.IntKind renaming i64 → Z
open Go.RowKit Go.Sort
def Em:ByteArray:=⟨#[97,110,32,73,100,32,105,115,32,110,111,116,32,49,32,116,111,32,57,57,57,57]⟩
def FE:ByteArray:=⟨#[116,104,101,32,73,100,115,32,97,114,101,32,110,111,116,32,114,105,115,105,110,103]⟩
def yk:ByteArray:=⟨#[97,32,115,116,97,114,32,105,115,32,97,116,32,110,111,32,115,109,97,108,108,32,100,105,114,101,99,116,105,111,110,32,116,104,97,116,32,105,115,32,105,116,115,32,111,119,110,32,112,114,105,109,101]⟩
def zM:ByteArray:=⟨#[116,119,111,32,115,116,97,114,115,32,97,114,101,32,116,104,101,32,115,97,109,101,32,119,97,121]⟩
def Az:ByteArray:=⟨#[116,104,101,114,101,32,97,114,101,32,116,111,111,32,109,97,110,121,32,115,116,97,114,115]⟩
def eP(why:ByteArray):Value:=.iface 204 (.agg #[.string why])
def gy(L:List St)(i:Nat):Value:=
 if idB (stA L i).1=false then eP Em else if upB L i=false then eP FE
 else if (aU (stA L i).2.1 (stA L i).2.2.1 (stA L i).2.2.2&&fG (stA L i).2.1 (stA L i).2.2.1 (stA L i).2.2.2)=false then eP yk
 else if fq L (stA L i) i=true then eP zM else .nilIface
variable {i:Nat}
theorem Fl{L:List St}(h:eV L i=true):gy L i=.nilIface:=by
 unfold eV at h;simp only[Bool.and_eq_true,Bool.not_eq_true']at h;obtain⟨⟨⟨h1,h2⟩,h3,h4⟩,h5⟩:=h;unfold gy;simp[h1,h2,h3,h4,h5]
theorem AA{L:List St}(h:eV L i=false):∃why,gy L i=eP why:=by
 unfold gy;split
 ·exact⟨_,rfl⟩
 ·split
  ·exact⟨_,rfl⟩
  ·split
   ·exact⟨_,rfl⟩
   ·split
    ·exact⟨_,rfl⟩
    ·rename_i h1 h2 h3 h4
     exfalso;simp only[Bool.not_eq_false,Bool.not_eq_true]at h1 h2 h3 h4;unfold eV at h;rw[h1,h2,h3,h4]at h;simp at h
theorem fW(w:World)(s:St)(t:TypeId):oh (w.alloc (.cells #[J Z s.1,J Z s.2.1,J Z s.2.2.1,J Z s.2.2.2] t)) w.heap.size 0 s:=by
 refine⟨?_,?_,?_,?_⟩<;>simp
theorem sM(L:List St)(i:Nat)(s1 s2 s3 s4:Int)(a:Option Addr)(c:Nat)(w:World)(hi:i≤1048576)(hs:stA L i=(s1,s2,s3,s4))(hS:aZ w a L i):
  Calls Tryz.prog 158 #[.agg #[J Z s1,J Z s2,J Z s3,J Z s4],.slice a i c] w fun e w'=>e=.returned (gy L i)∧Below w.heap.size w w':=by
 have HS:=yz hs;clear hs;have HA:=yz hS;clear hS;have HB:=yz (an w (.cells #[J Z s1,J Z s2,J Z s3,J Z s4] 74));have HN:=yz (fW w (s1,s2,s3,s4) 74);by_cases h1:s1<1
 ·have HO:Hid (gy L i=eP Em):=yz (by unfold gy;rw[if_pos (by rw[yy HS];unfold idB;simp;omega)]);go_enter Tryz.func158,Tryz.ntmps158;go_wp2;go_ret;exact⟨by rw[yy HO];rfl,yy HB⟩
 by_cases h2:9999<s1
 ·have HO:Hid (gy L i=eP Em):=yz (by unfold gy;rw[if_pos (by rw[yy HS];unfold idB;simp;omega)]);go_enter Tryz.func158,Tryz.ntmps158;go_wp2;go_ret;exact⟨by rw[yy HO];rfl,yy HB⟩
 have K0:Hid (¬idB (stA L i).1=false):=yz (by rw[yy HS];unfold idB;simp;omega);by_cases hu:upB L i=false
 ·have HO:Hid (gy L i=eP FE):=yz (by unfold gy;rw[if_neg (yy K0),if_pos hu]);obtain⟨j,rfl⟩:∃j,i=j+1:=⟨i-1,by unfold upB at hu;simp at hu;omega⟩
  obtain⟨⟨p1,p2,p3,p4⟩,hp⟩:∃s,stA L j=s:=⟨_,rfl⟩
  have hle:s1≤p1:=by unfold upB at hu;rw[yy HS]at hu;simp[hp]at hu;omega
  rcases yy HA with h0 | ⟨b,o,rfl,hb,hc⟩
  ·omega
  have hst:=(hc j (by omega)).kept hb (yy HB);rw[hp]at hst;obtain⟨c0,_,_,_⟩:=hst;have hj1:(j:Int)+1-1=(j:Int):=by omega
  have hj2:(0:Int)<(j:Int)+1:=by omega
  clear hu hp hc;go_enter Tryz.func158,Tryz.ntmps158;go_wp2_with fail;go_quiet (fail)
  go_wp2_with fail;go_ret;exact⟨by rw[yy HO];rfl,ak (yy HB) (dC _ _)⟩
 have K1:=yz hu;clear hu;rcases Nat.eq_zero_or_pos i with hi0 | hi0
 ·subst hi0;go_enter Tryz.func158,Tryz.ntmps158;go_wp2_with fail;go_quiet (fail)
  go_wp2_with fail;have hx:=ak (yy HB) (dC (w.alloc (.cells #[J Z s1,J Z s2,J Z s3,J Z s4] 74)) nq);have hn':=(yy HN).kept (by simp) (dC _ nq);generalize (w.alloc (.cells #[J Z s1,J Z s2,J Z s3,J Z s4] 74)).drewN nq=W1 at hx hn' ⊢;have HB1:=yz hx;have HN1:=yz hn';clear hx hn' HB HN;obtain⟨_,c1,c2,c3⟩:=yy HN1;simp only[Nat.zero_add]at c1 c2 c3;have r1:=cell_regrown c1;have r2:=cell_regrown c2;have r3:=cell_regrown c3;clear c1 c2 c3;cases hsm:aU s2 s3 s4
  ·have HO:Hid (gy L 0=eP yk):=yz (by unfold gy;rw[if_neg (yy K0),if_neg (yy K1),if_pos (by rw[yy HS];simp[hsm])]);have cS:Hid (∀W:World,Calls Tryz.prog 172 #[.agg #[J Z s2,J Z s3,J Z s4]] W fun e w'=>e=.returned (.bool false)∧Below W.heap.size W w'):=yz (fun W=>(gd s2 s3 s4 W).mono fun e w' h=>⟨by rw[h.1,hsm],h.2⟩);clear hsm;refine dg ?_;repeat (quiet_step (with_reducible first | exact aO cS))
   refine dv fun dq osq=>?_;have hx:=ak (yy HB1) (below_regrown W1 dq osq);go_wp2_with fail;go_ret;exact⟨by rw[yy HO];rfl,hx⟩
  ·have cS:Hid (∀W:World,Calls Tryz.prog 172 #[.agg #[J Z s2,J Z s3,J Z s4]] W fun e w'=>e=.returned (.bool true)∧Below W.heap.size W w'):=yz (fun W=>(gd s2 s3 s4 W).mono fun e w' h=>⟨by rw[h.1,hsm],h.2⟩);have cP:=yz (fun W=>oN s2 s3 s4 W);have hq:=fun W=>lx s2 s3 s4 (prI (aA s2 s3 s4) (gI s2 s3 s4) s2) (prI (aA s2 s3 s4) (gI s2 s3 s4) s3) (prI (aA s2 s3 s4) (gI s2 s3 s4) s4) W;have hq2:eqB s2 s3 s4 (prI (aA s2 s3 s4) (gI s2 s3 s4) s2) (prI (aA s2 s3 s4) (gI s2 s3 s4) s3) (prI (aA s2 s3 s4) (gI s2 s3 s4) s4)=fG s2 s3 s4:=rfl;rw[hq2]at hq;clear hq2;generalize prI (aA s2 s3 s4) (gI s2 s3 s4) s2=t2 at cP hq;generalize prI (aA s2 s3 s4) (gI s2 s3 s4) s3=t3 at cP hq;generalize prI (aA s2 s3 s4) (gI s2 s3 s4) s4=t4 at cP hq;cases hpr:fG s2 s3 s4
   ·have HO:Hid (gy L 0=eP yk):=yz (by unfold gy;rw[if_neg (yy K0),if_neg (yy K1),if_pos (by rw[yy HS];simp[hpr])]);rw[hpr]at hq;refine dg ?_;repeat (quiet_step (with_reducible first | exact aO cS | exact aO cP))
    refine dv fun dq osq=>?_;have hx:=below_regrown W1 dq osq;replace hx:=ak (yy HB1) hx;go_wp2_with fail;go_ret;exact⟨by rw[yy HO];rfl,hx⟩
   ·have K2:Hid (¬(aU (stA L 0).2.1 (stA L 0).2.2.1 (stA L 0).2.2.2&&fG (stA L 0).2.1 (stA L 0).2.2.1 (stA L 0).2.2.2)=false):=yz (by rw[yy HS];simp[hsm,hpr]);clear hsm;rw[hpr]at hq;refine dg ?_;repeat (quiet_step (with_reducible first | exact aO cS | exact aO cP))
    refine dv fun dq osq=>?_;have hx:=below_regrown W1 dq osq;have hn2:=(yy HN1).kept (World.block_lt_of_cell? _ _ (yy HN1).1) hx;have hb2:=ak (yy HB1) hx;generalize grow (redrawn W1 dq) osq=W2 at hx hn2 hb2 ⊢;have HB2:=yz hb2;clear hx hb2 r1 r2 r3 hq cS cP HN1 HB1;obtain⟨_,c1,c2,c3⟩:=hn2;simp only[Nat.zero_add]at c1 c2 c3;go_wp2_with fail;refine(ph L 0 s2 s3 s4 _ _ _ hi ((yy HA).kept (yy HB2))).mono ?_;rintro e w3 ⟨rfl,hx⟩;replace hx:=ak (yy HB2) hx;clear HB2 c1 c2 c3;have ht:fq L (0,s2,s3,s4) 0=fq L (stA L 0) 0:=by rw[yy HS];rfl
    rw[ht];clear ht;cases htk:fq L (stA L 0) 0
    ·have HO:Hid (gy L 0=.nilIface):=yz (by unfold gy;rw[if_neg (yy K0),if_neg (yy K1),if_neg (yy K2),if_neg (by rw[htk];simp)]);go_wp2_with fail;go_ret;exact⟨by rw[yy HO];rfl,hx⟩
    ·have HO:Hid (gy L 0=eP zM):=yz (by unfold gy;rw[if_neg (yy K0),if_neg (yy K1),if_neg (yy K2),if_pos htk]);go_wp2_with fail;go_ret;exact⟨by rw[yy HO];rfl,hx⟩
 ·obtain⟨j,rfl⟩:∃j,i=j+1:=⟨i-1,by omega⟩
  obtain⟨⟨p1,p2,p3,p4⟩,hp⟩:∃s,stA L j=s:=⟨_,rfl⟩
  have hle:p1<s1:=by have hu:=yy K1;unfold upB at hu;rw[yy HS]at hu;simp[hp]at hu;omega
  rcases yy HA with h0 | ⟨b,o,rfl,hb,hc⟩
  ·omega
  have hst:=(hc j (by omega)).kept hb (yy HB);rw[hp]at hst;obtain⟨c0,_,_,_⟩:=hst;have hj1:(j:Int)+1-1=(j:Int):=by omega
  have hj2:(0:Int)<(j:Int)+1:=by omega
  clear hp hc;go_enter Tryz.func158,Tryz.ntmps158;go_wp2_with fail;go_quiet (fail)
  go_wp2_with fail;clear c0;have hx:=ak (yy HB) (dC (w.alloc (.cells #[J Z s1,J Z s2,J Z s3,J Z s4] 74)) nq);have hn':=(yy HN).kept (by simp) (dC _ nq);generalize (w.alloc (.cells #[J Z s1,J Z s2,J Z s3,J Z s4] 74)).drewN nq=W1 at hx hn' ⊢;have HB1:=yz hx;have HN1:=yz hn';clear hx hn' HB HN;obtain⟨_,c1,c2,c3⟩:=yy HN1;simp only[Nat.zero_add]at c1 c2 c3;have r1:=cell_regrown c1;have r2:=cell_regrown c2;have r3:=cell_regrown c3;clear c1 c2 c3;cases hsm:aU s2 s3 s4
  ·have HO:Hid (gy L (j+1)=eP yk):=yz (by unfold gy;rw[if_neg (yy K0),if_neg (yy K1),if_pos (by rw[yy HS];simp[hsm])]);have cS:Hid (∀W:World,Calls Tryz.prog 172 #[.agg #[J Z s2,J Z s3,J Z s4]] W fun e w'=>e=.returned (.bool false)∧Below W.heap.size W w'):=yz (fun W=>(gd s2 s3 s4 W).mono fun e w' h=>⟨by rw[h.1,hsm],h.2⟩);clear hsm;refine dg ?_;repeat (quiet_step (with_reducible first | exact aO cS))
   refine dv fun dq osq=>?_;have hx:=ak (yy HB1) (below_regrown W1 dq osq);go_wp2_with fail;go_ret;exact⟨by rw[yy HO];rfl,hx⟩
  ·have cS:Hid (∀W:World,Calls Tryz.prog 172 #[.agg #[J Z s2,J Z s3,J Z s4]] W fun e w'=>e=.returned (.bool true)∧Below W.heap.size W w'):=yz (fun W=>(gd s2 s3 s4 W).mono fun e w' h=>⟨by rw[h.1,hsm],h.2⟩);have cP:=yz (fun W=>oN s2 s3 s4 W);have hq:=fun W=>lx s2 s3 s4 (prI (aA s2 s3 s4) (gI s2 s3 s4) s2) (prI (aA s2 s3 s4) (gI s2 s3 s4) s3) (prI (aA s2 s3 s4) (gI s2 s3 s4) s4) W;have hq2:eqB s2 s3 s4 (prI (aA s2 s3 s4) (gI s2 s3 s4) s2) (prI (aA s2 s3 s4) (gI s2 s3 s4) s3) (prI (aA s2 s3 s4) (gI s2 s3 s4) s4)=fG s2 s3 s4:=rfl;rw[hq2]at hq;clear hq2;generalize prI (aA s2 s3 s4) (gI s2 s3 s4) s2=t2 at cP hq;generalize prI (aA s2 s3 s4) (gI s2 s3 s4) s3=t3 at cP hq;generalize prI (aA s2 s3 s4) (gI s2 s3 s4) s4=t4 at cP hq;cases hpr:fG s2 s3 s4
   ·have HO:Hid (gy L (j+1)=eP yk):=yz (by unfold gy;rw[if_neg (yy K0),if_neg (yy K1),if_pos (by rw[yy HS];simp[hpr])]);rw[hpr]at hq;refine dg ?_;repeat (quiet_step (with_reducible first | exact aO cS | exact aO cP))
    refine dv fun dq osq=>?_;have hx:=below_regrown W1 dq osq;replace hx:=ak (yy HB1) hx;go_wp2_with fail;go_ret;exact⟨by rw[yy HO];rfl,hx⟩
   ·have K2:Hid (¬(aU (stA L (j+1)).2.1 (stA L (j+1)).2.2.1 (stA L (j+1)).2.2.2&&fG (stA L (j+1)).2.1 (stA L (j+1)).2.2.1 (stA L (j+1)).2.2.2)=false):=yz (by rw[yy HS];simp[hsm,hpr]);clear hsm;rw[hpr]at hq;refine dg ?_;repeat (quiet_step (with_reducible first | exact aO cS | exact aO cP))
    refine dv fun dq osq=>?_;have hx:=below_regrown W1 dq osq;have hn2:=(yy HN1).kept (World.block_lt_of_cell? _ _ (yy HN1).1) hx;have hb2:=ak (yy HB1) hx;generalize grow (redrawn W1 dq) osq=W2 at hx hn2 hb2 ⊢;have HB2:=yz hb2;clear hx hb2 r1 r2 r3 hq cS cP HN1 HB1;obtain⟨_,c1,c2,c3⟩:=hn2;simp only[Nat.zero_add]at c1 c2 c3;go_wp2_with fail;refine(ph L (j+1) s2 s3 s4 _ _ _ hi ((yy HA).kept (yy HB2))).mono ?_;rintro e w3 ⟨rfl,hx⟩;replace hx:=ak (yy HB2) hx;clear HB2 c1 c2 c3;have ht:fq L (0,s2,s3,s4) (j+1)=fq L (stA L (j+1)) (j+1):=by rw[yy HS];rfl
    rw[ht];clear ht;cases htk:fq L (stA L (j+1)) (j+1)
    ·have HO:Hid (gy L (j+1)=.nilIface):=yz (by unfold gy;rw[if_neg (yy K0),if_neg (yy K1),if_neg (yy K2),if_neg (by rw[htk];simp)]);go_wp2_with fail;go_ret;exact⟨by rw[yy HO];rfl,hx⟩
    ·have HO:Hid (gy L (j+1)=eP zM):=yz (by unfold gy;rw[if_neg (yy K0),if_neg (yy K1),if_neg (yy K2),if_pos htk]);go_wp2_with fail;go_ret;exact⟨by rw[yy HO];rfl,hx⟩
end
section
open Go.RowKit Go.Sort
def iM(L:List St):Value:=if 12<L.length then eP Az else match (List.range L.length).find? (fun i=>!eV L i) with | none=>.nilIface | some i=>gy L i
theorem oW{L:List St}(hl:L.length≤12)(h:vf L L.length):iM L=.nilIface:=by
 unfold iM;rw[if_neg (by omega)]
 have:(List.range L.length).find? (fun i=>!eV L i)=none:=by
  rw[List.find?_eq_none];intro j hj;rw[h j (List.mem_range.1 hj)];simp
 rw[this]
theorem Cb{L:List St}{k:Nat}(hl:L.length≤12)(hk:k<L.length)(h:vf L k)(h1:eV L k=false):iM L=gy L k:=by
 unfold iM;rw[if_neg (by omega)]
 have:(List.range L.length).find? (fun i=>!eV L i)=some k:=by
  rw[List.find?_range_eq_some];refine⟨by rw[h1];rfl,List.mem_range.2 hk,fun j hj=>?_⟩;rw[h j hj];rfl
 rw[this]
theorem Cc{L:List St}(h:bc L=false):∃why,iM L=eP why:=by
 unfold iM;split
 ·exact⟨_,rfl⟩
 ·rename_i hl
  cases hf:(List.range L.length).find? (fun i=>!eV L i) with
  | none=>
   exfalso;rw[List.find?_eq_none]at hf;have:bc L=true:=vq (by omega) (fun j hj=>by have:=hf j (List.mem_range.2 hj);simpa using this);rw[h]at this;cases this
  | some i=>
   rw[List.find?_range_eq_some]at hf;exact AA (by simpa using hf.1)
theorem zL{L:List St}(h:bc L=true):iM L=.nilIface:=oW (cg h).1 (cg h).2
theorem od(L:List St)(a:Option Addr)(c:Nat)(w:World)(hn:L.length≤1048576)(hcap:L.length≤c)(hc9:c≤9223372036854775807)(hS:aZ w a L L.length):
  Calls Tryz.prog 124 #[.slice a L.length c] w fun e w'=>e=.returned (iM L)∧Below w.heap.size w w':=by
 obtain⟨n,hnl⟩:∃n,L.length=n:=⟨_,rfl⟩
 rw[hnl]at hn hcap hS ⊢;have HL:=yz hnl;clear hnl;by_cases h12:12<n
 ·have h12':(12:Int)<(n:Int):=by omega
  have HO:Hid (iM L=eP Az):=yz (by unfold iM;rw[if_pos (by rw[yy HL];exact h12)]);clear hS;go_enter Tryz.func124,Tryz.ntmps124;go_wp2;go_ret;exact⟨by rw[yy HO];rfl,Below.refl _ _⟩
 have h12':¬(12:Int)<(n:Int):=by omega
 rcases hS with rfl | ⟨b,o,rfl,hb,hc⟩
 ·have HO:Hid (iM L=.nilIface):=yz (oW (by rw[yy HL];omega) (by rw[yy HL];intro j hj;omega));go_enter Tryz.func124,Tryz.ntmps124;go_wp2_with fail;refine wp_loop_rounds 1 ?_;rw[rounds_succ];go_wp2_with fail;go_ret;exact⟨by rw[yy HO];rfl,Below.refl _ _⟩
 have HC:=yz hc;have HS:Hid (aZ w (some ⟨b,o,none⟩) L n):=yz (.inr ⟨b,o,rfl,hb,hc⟩);clear hc;go_enter Tryz.func124,Tryz.ntmps124;go_wp2_with fail;go_loopw [13] (fun i wr=>∃k:Nat,k≤n∧i=.int .i64 k∧Hid (vf L k)∧Hid (Below w.heap.size w wr)) (fun i _=>n-(intOf i).toNat)
 case atStart=>exact⟨0,by omega,rfl,yz (fun j hj=>absurd hj (Nat.not_lt_zero _)),yz (Below.refl _ _)⟩
 case round=>
  obtain⟨k,hk,rfl,HF,HB⟩:=hrel;by_cases hkn:k<n
  ·obtain⟨⟨s1,s2,s3,s4⟩,hs⟩:∃s,stA L k=s:=⟨_,rfl⟩
   have hst:=((yy HC) k hkn).kept hb (yy HB);rw[hs]at hst;obtain⟨c0,c1,c2,c3⟩:=hst;have HT:=yz hs;clear hs;have B1:=yz ((yy HB).alloc (yy HB).size (.cells #[.int .i64 s1,.int .i64 s2,.int .i64 s3,.int .i64 s4] 74));have N1:=yz (fW wr (s1,s2,s3,s4) 74);go_wp2_with fail;clear c0 c1 c2 c3;have hb1:=yy B1;have hn1:=yy N1;generalize hwe:wr.alloc (.cells #[.int .i64 s1,.int .i64 s2,.int .i64 s3,.int .i64 s4] 74)=W1 at hb1 hn1 ⊢;have HB1:=yz hb1;clear hwe hb1 B1 N1;obtain⟨c0,c1,c2,c3⟩:=hn1;simp only[Nat.zero_add]at c0 c1 c2 c3;have r0:=cell_regrown c0;have r1:=cell_regrown c1;have r2:=cell_regrown c2;have r3:=cell_regrown c3;clear c0 c1 c2 c3;have cW:=yz (fun (W:World) (hW:aZ W (some ⟨b,o,none⟩) L k)=>sM L k s1 s2 s3 s4 (some ⟨b,o,none⟩) k W (by omega) (yy HT) hW);have HSk:=yz (((yy HS).less (Nat.le_of_lt hkn)).kept (yy HB1));have hkc:(k:Int)≤(c:Int):=by omega
   refine dg ?_;repeat (quiet_step (first | (with_reducible exact Calls.regrown_of (yy cW _ ((yy HSk).kept (below_regrown _ _ _))))))
   refine dv fun dq osq=>?_;have hx:=ak (yy HB1) (below_regrown W1 dq osq);generalize grow (redrawn W1 dq) osq=W2 at hx ⊢;have HB2:=yz hx;clear hx HB1 HB cW HSk r0 r1 r2 r3;cases hok:eV L k
   ·obtain⟨why,hwhy⟩:=AA hok;have HO:=yz (Cb (by rw[yy HL];omega) (by rw[yy HL];exact hkn) (yy HF) hok);rw[hwhy]at HO ⊢;unfold eP at HO ⊢;clear hok hwhy;go_wp2_with fail;go_ret;exact⟨by rw[yy HO];rfl,yy HB2⟩
   ·rw[Fl hok];have HF2:=yz (vg (yy HF) hok);clear hok;go_wp2_with fail;go_roundw
    case rel=>exact⟨k+1,by omega,by go_num,HF2,HB2⟩
    case measure=>simp[intOf];omega
  ·have hkn':k=n:=by omega
   subst hkn';have HO:=yz (oW (L:=L) (by rw[yy HL];omega) (by rw[yy HL];exact yy HF));go_wp2_with fail;go_ret;exact⟨by rw[yy HO];rfl,yy HB⟩
theorem fz(L:List St)(a:Option Addr)(c:Nat)(p:Addr)(w:World)(hn:L.length≤1048576)(hcap:L.length≤c)(hc9:c≤9223372036854775807)(hS:aZ w a L L.length)(hE:bE p w):
  Calls Tryz.prog 96 #[.slice a L.length c] w fun e w'=>e=.returned (.bool (bc L))∧Below w.heap.size w w':=by
 have r0:=cell_regrown (show w.cell? ⟨1,0,none⟩=some (.iface 267 (.pointer (some p))) from hE);have HS:=yz hS;have HE:=yz hE;clear hS hE;cases hk:bc L
 ·obtain⟨why,hwhy⟩:=Cc hk;have cW:Hid (∀W:World,aZ W a L L.length→Calls Tryz.prog 124 #[.slice a L.length c] W fun e w'=>e=.returned (.iface 204 (.agg #[.string why]))∧Below W.heap.size W w'):=yz (fun W hW=>(od L a c W hn hcap hc9 hW).mono fun e w' h=>⟨by rw[h.1,hwhy];rfl,h.2⟩);have cI:=yz (fun (W:World) (hW:bE p W)=>CX why p W hW);clear hwhy hk;go_enter Tryz.func96,Tryz.ntmps96;go_wp2_with fail;refine dg ?_;repeat (quiet_step (first | (with_reducible exact Calls.regrown_of (yy cW _ ((yy HS).kept (below_regrown _ _ _)))) | (with_reducible exact Calls.regrown_of (yy cI _ ((yy HE).kept (below_regrown _ _ _))))))
  refine dv fun dq osq=>?_;have hx:=below_regrown w dq osq;go_wp2_with fail;go_ret;exact⟨rfl,hx⟩
 ·have cW:Hid (∀W:World,aZ W a L L.length→Calls Tryz.prog 124 #[.slice a L.length c] W fun e w'=>e=.returned .nilIface∧Below W.heap.size W w'):=yz (fun W hW=>(od L a c W hn hcap hc9 hW).mono fun e w' h=>⟨by rw[h.1,zL hk],h.2⟩);have cI:Hid (∀W:World,Calls Tryz.prog 123 #[.nilIface,.iface 267 (.pointer (some p))] W fun e w'=>e=.returned (.bool false)∧Below W.heap.size W w'):=yz (fun W=>(FT p W).mono fun e w' h=>⟨h.1,by rw[h.2];exact Below.refl _ _⟩);clear hk;go_enter Tryz.func96,Tryz.ntmps96;go_wp2_with fail;refine dg ?_;repeat (quiet_step (first | (with_reducible exact Calls.regrown_of (yy cW _ ((yy HS).kept (below_regrown _ _ _)))) | (with_reducible exact aO cI)))
  refine dv fun dq osq=>?_;have hx:=below_regrown w dq osq;go_wp2_with fail;go_ret;exact⟨rfl,hx⟩
end
section
open Go.Value renaming int → J
open Go.IntKind renaming i64 → Z
open Go.RowKit Go.Sort
theorem wt(a1 a2 a3 b1 b2 b3:Int):eqB a1 a2 a3 b1 b2 b3=eqI b1 b2 b3 a1 a2 a3:=by
 unfold eqB eqI;congr 1
 apply propext;constructor<;>rintro ⟨h1,h2,h3⟩<;>exact⟨h1.symm,h2.symm,h3.symm⟩
variable {s1 s2 s3 s4:Int} {i:Nat}
theorem xz{L:List St}(hs:stA L i=(s1,s2,s3,s4))(h:idB s1=false):eV L i=false:=by unfold eV;rw[hs];simp[h]
theorem Dw{L:List St}(h:upB L i=false):eV L i=false:=by unfold eV;simp[h]
theorem nz{L:List St}(hs:stA L i=(s1,s2,s3,s4))(h:aU s2 s3 s4=false):eV L i=false:=by unfold eV;rw[hs];simp[h]
theorem xA{L:List St}(hs:stA L i=(s1,s2,s3,s4))(h:fG s2 s3 s4=false):eV L i=false:=by unfold eV;rw[hs];simp[h]
theorem Dx{L:List St}(h:fq L (stA L i) i=true):eV L i=false:=by unfold eV;simp[h]
theorem xB{L:List St}(hs:stA L i=(s1,s2,s3,s4))(h1:idB s1=true)(h2:upB L i=true)(h3:aU s2 s3 s4=true)(h4:fG s2 s3 s4=true)(h5:fq L (stA L i) i=false):eV L i=true:=by
 unfold eV;rw[h5,h2,hs];simp[h1,h3,h4]
theorem jh(L:List St)(a:Option Addr)(c:Nat)(w:World)(hn:L.length≤1048576)(hS:aZ w a L L.length):
  Calls Tryz.prog 28 #[.slice a L.length c] w fun e w'=>e=.returned (.bool (bc L))∧Below w.heap.size w w':=by
 obtain⟨n,hnl⟩:∃n,L.length=n:=⟨_,rfl⟩
 rw[hnl]at hn hS ⊢;have HL:=yz hnl;clear hnl;by_cases h12:12<n
 ·have h12':(12:Int)<(n:Int):=by omega
  have HO:Hid (bc L=false):=yz (DU (by rw[yy HL];exact h12));clear hS;go_enter Tryz.func28,Tryz.ntmps28;go_wp2;go_ret;exact⟨by rw[yy HO];rfl,Below.refl _ _⟩
 have h12':¬(12:Int)<(n:Int):=by omega
 rcases hS with rfl | ⟨b,o,rfl,hb,hc⟩
 ·have HO:Hid (bc L=true):=yz (vq (by rw[yy HL];omega) (by rw[yy HL];intro j hj;omega));go_enter Tryz.func28,Tryz.ntmps28;go_wp2_with fail;refine wp_loop_rounds 1 ?_;rw[rounds_succ];go_wp2_with fail;go_ret;exact⟨by rw[yy HO];rfl,Below.refl _ _⟩
 have HC:=yz hc;clear hc;go_enter Tryz.func28,Tryz.ntmps28;go_wp2_with fail;go_loopw [3] (fun i wr=>∃k:Nat,k≤n∧i=J Z k∧Hid (vf L k)∧Hid (Below w.heap.size w wr)) (fun i _=>n-(intOf i).toNat)
 case atStart=>exact⟨0,by omega,rfl,yz (fun j hj=>absurd hj (Nat.not_lt_zero _)),yz (Below.refl _ _)⟩
 case round=>
  obtain⟨k,hk,rfl,HF,HB⟩:=hrel;by_cases hkn:k<n
  ·obtain⟨⟨s1,s2,s3,s4⟩,hs⟩:∃s,stA L k=s:=⟨_,rfl⟩
   have hst:=((yy HC) k hkn).kept hb (yy HB);rw[hs]at hst;obtain⟨c0,c1,c2,c3⟩:=hst;have HT:=yz hs;clear hs;have hkn2:(k:Int)<(n:Int):=by omega
   have B1:=yz ((yy HB).alloc (yy HB).size (.cells #[J Z s2,J Z s3,J Z s4] 72));have N1:=yz (aM wr s2 s3 s4 72);rcases Nat.eq_zero_or_pos k with hk0 | hk0
   ·subst hk0;go_wp2_with fail;clear c0 c1 c2 c3;have hb1:=yy B1;have hn1:=yy N1;generalize hwe:wr.alloc (.cells #[J Z s2,J Z s3,J Z s4] 72)=W1 at hb1 hn1 ⊢;generalize hwb:wr.heap.size=vb at hn1 ⊢;have HB1:=yz hb1;have HN1:=yz hn1;clear hwe hwb hb1 hn1 B1 N1 HB;obtain⟨v0,v1,v2⟩:=yy HN1;have r0:=cell_regrown v0;have r1:=cell_regrown v1;have r2:=cell_regrown v2;clear v0 v1 v2;have hst:=((yy HC) (0) hkn).kept hb (yy HB1);rw[yy HT]at hst;have hst1:=hst.1;simp only[Nat.zero_mul,Nat.add_zero]at hst1;have q0:=cell_regrown hst1;clear hst hst1;have cI:Hid (∀W:World,Calls Tryz.prog 29 #[J Z s1,J Z 1,J Z 9999] W fun e w'=>e=.returned (.bool (idB s1))∧Below W.heap.size W w'):=yz (fun W=>(eh s1 1 9999 W).mono fun e w' h=>⟨h.1,by rw[h.2];exact Below.refl _ _⟩);have cR:=yz (fun W=>jm s2 s3 s4 W);have cW:=yz (fun W=>gP 10 s2 s3 s4 W (by omega) (by omega));cases hid:idB s1
    ·have HO:Hid (bc L=false):=yz (jl (k:=0) (by rw[yy HL];exact hkn) (xz (yy HT) hid));rw[hid]at cI;refine dg ?_;repeat (go_big_quiet_step (with_reducible first | exact aO cI))
     refine dv fun dq osq=>?_;have hx:=ak (yy HB1) (below_regrown W1 dq osq);go_wp2_with fail;go_ret;exact⟨by rw[yy HO];rfl,hx⟩
    ·rw[hid]at cI;have HU:Hid (upB L 0=true):=yz rfl;cases hr:aA s2 s3 s4
     ·have HO:Hid (bc L=false):=yz (jl (k:=0) (by rw[yy HL];exact hkn) (nz (yy HT) (by unfold aU;rw[hr];rfl)));rw[hr]at cR;refine dg ?_;repeat (go_big_quiet_step (with_reducible first | exact aO cI | exact aO cR))
      refine dv fun dq osq=>?_;have hx:=ak (yy HB1) (below_regrown W1 dq osq);go_wp2_with fail;go_ret;exact⟨by rw[yy HO];rfl,hx⟩
     ·rw[hr]at cR;have cP:=yz (fun W=>jX s2 s3 s4 W hr);cases hwi:aR 10 s2 s3 s4
      ·have HO:Hid (bc L=false):=yz (jl (k:=0) (by rw[yy HL];exact hkn) (nz (yy HT) (by unfold aU;rw[hwi];simp)));rw[hwi]at cW;refine dg ?_;repeat (go_big_quiet_step (with_reducible first | exact aO cI | exact aO cR | exact aO cW))
       refine dv fun dq osq=>?_;have hx:=ak (yy HB1) (below_regrown W1 dq osq);go_wp2_with fail;go_ret;exact⟨by rw[yy HO];rfl,hx⟩
      ·rw[hwi]at cW;have hq:=fun W=>lx (wrap64 (s2.tdiv (gI s2 s3 s4))) (wrap64 (s3.tdiv (gI s2 s3 s4))) (wrap64 (s4.tdiv (gI s2 s3 s4))) s2 s3 s4 W;have hq2:eqB (wrap64 (s2.tdiv (gI s2 s3 s4))) (wrap64 (s3.tdiv (gI s2 s3 s4))) (wrap64 (s4.tdiv (gI s2 s3 s4))) s2 s3 s4=fG s2 s3 s4:=by rw[wt];unfold fG prI;rw[hr];rfl
       rw[hq2]at hq;clear hq2;generalize wrap64 (s2.tdiv (gI s2 s3 s4))=t2 at cP hq;generalize wrap64 (s3.tdiv (gI s2 s3 s4))=t3 at cP hq;generalize wrap64 (s4.tdiv (gI s2 s3 s4))=t4 at cP hq;cases hpr:fG s2 s3 s4
       ·have HO:Hid (bc L=false):=yz (jl (k:=0) (by rw[yy HL];exact hkn) (xA (yy HT) hpr));rw[hpr]at hq;refine dg ?_;repeat (go_big_quiet_step (with_reducible first | exact aO cI | exact aO cR | exact aO cW | exact aO cP))
        refine dv fun dq osq=>?_;have hx:=ak (yy HB1) (below_regrown W1 dq osq);go_wp2_with fail;go_ret;exact⟨by rw[yy HO];rfl,hx⟩
       ·rw[hpr]at hq;have HM:Hid (aU s2 s3 s4=true):=yz (by unfold aU;rw[hr,hwi];rfl);have HI:=yz hid;have HPR:=yz hpr;refine dg ?_;repeat (go_big_quiet_step (with_reducible first | exact aO cI | exact aO cR | exact aO cW | exact aO cP))
        refine dv fun dq osq=>?_;have hx:=below_regrown W1 dq osq;have hb2:=ak (yy HB1) hx;have hn2:=(yy HN1).kept (vlt (yy HN1)) hx;generalize grow (redrawn W1 dq) osq=W2 at hb2 hn2 hx ⊢;have HB2:=yz hb2;have HN2:=yz hn2;clear hx hb2 hn2 r0 r1 r2 q0 hq cI cR cW cP hid hpr hwi hr HB1 HN1;go_wp2_with fail;go_loopw [5] (fun i wr=>∃m:Nat,m≤0∧i=J Z m∧Hid (ow L (stA L (0)) m)∧Hid (Below w.heap.size w wr)∧Hid (aK wr vb s2 s3 s4)) (fun i _=>(0)-(intOf i).toNat)
        case atStart=>exact⟨0,by omega,rfl,yz (fun j hj=>absurd hj (Nat.not_lt_zero _)),HB2,HN2⟩
        case round=>
         obtain⟨m,hm,rfl,HE,HB3,HN3⟩:=hrel;by_cases hmk:m<0
         ·omega
         ·have hmk':m=0:=by omega
          subst hmk';have HF2:=yz (vg (yy HF) (xB (yy HT) (yy HI) (yy HU) (yy HM) (yy HPR) (rS (yy HE))));go_wp2_with fail;go_roundw
          case rel=>exact⟨0+1,by omega,by go_num,HF2,HB3⟩
          case measure=>simp[intOf];omega
   ·obtain⟨j,hkj⟩:∃j,k=j+1:=⟨k-1,by omega⟩
    have HK:Hid (k-1=j):=yz (by omega);have HKJ:=yz hkj;have hjk:j<k:=by omega
    clear hkj;obtain⟨⟨p1,p2,p3,p4⟩,hp⟩:∃s,stA L j=s:=⟨_,rfl⟩
    have HP:=yz hp;clear hp;go_wp2_with fail;clear c0 c1 c2 c3;have hb1:=yy B1;have hn1:=yy N1;generalize hwe:wr.alloc (.cells #[J Z s2,J Z s3,J Z s4] 72)=W1 at hb1 hn1 ⊢;generalize hwb:wr.heap.size=vb at hn1 ⊢;have HB1:=yz hb1;have HN1:=yz hn1;clear hwe hwb hb1 hn1 B1 N1 HB;obtain⟨v0,v1,v2⟩:=yy HN1;have r0:=cell_regrown v0;have r1:=cell_regrown v1;have r2:=cell_regrown v2;clear v0 v1 v2;have hst:=((yy HC) (k) hkn).kept hb (yy HB1);rw[yy HT]at hst;have q0:=cell_regrown hst.1;clear hst;have hst:=((yy HC) j (by omega)).kept hb (yy HB1);rw[yy HP]at hst;have q1:=cell_regrown hst.1;clear hst;have hj1:(k:Int)-1=(j:Int):=by have:=yy HKJ;omega
    have hj2:(0:Int)<(k:Int):=by omega
    have hj3:(j:Int)<(n:Int):=by omega
    have cI:Hid (∀W:World,Calls Tryz.prog 29 #[J Z s1,J Z 1,J Z 9999] W fun e w'=>e=.returned (.bool (idB s1))∧Below W.heap.size W w'):=yz (fun W=>(eh s1 1 9999 W).mono fun e w' h=>⟨h.1,by rw[h.2];exact Below.refl _ _⟩);have cR:=yz (fun W=>jm s2 s3 s4 W);have cW:=yz (fun W=>gP 10 s2 s3 s4 W (by omega) (by omega));cases hid:idB s1
    ·have HO:Hid (bc L=false):=yz (jl (k:=k) (by rw[yy HL];exact hkn) (xz (yy HT) hid));rw[hid]at cI;refine dg ?_;repeat (go_big_quiet_step (with_reducible first | exact aO cI))
     refine dv fun dq osq=>?_;have hx:=ak (yy HB1) (below_regrown W1 dq osq);go_wp2_with fail;go_ret;exact⟨by rw[yy HO];rfl,hx⟩
    ·rw[hid]at cI;by_cases hup:s1≤p1
     ·have HO:Hid (bc L=false):=yz (jl (k:=k) (by rw[yy HL];exact hkn) (Dw (by unfold upB;rw[yy HK,yy HT];simp[yy HP];omega)));refine dg ?_;repeat (go_big_quiet_step (with_reducible first | exact aO cI))
      refine dv fun dq osq=>?_;have hx:=ak (yy HB1) (below_regrown W1 dq osq);go_wp2_with fail;go_ret;exact⟨by rw[yy HO];rfl,hx⟩
     have HU:Hid (upB L k=true):=yz (by unfold upB;rw[yy HK,yy HT];simp[yy HP];omega);have hup2:decide (s1≤p1)=false:=by simp;omega
     clear hup;cases hr:aA s2 s3 s4
     ·have HO:Hid (bc L=false):=yz (jl (k:=k) (by rw[yy HL];exact hkn) (nz (yy HT) (by unfold aU;rw[hr];rfl)));rw[hr]at cR;refine dg ?_;repeat (go_big_quiet_step (with_reducible first | exact aO cI | exact aO cR))
      refine dv fun dq osq=>?_;have hx:=ak (yy HB1) (below_regrown W1 dq osq);go_wp2_with fail;go_ret;exact⟨by rw[yy HO];rfl,hx⟩
     ·rw[hr]at cR;have cP:=yz (fun W=>jX s2 s3 s4 W hr);cases hwi:aR 10 s2 s3 s4
      ·have HO:Hid (bc L=false):=yz (jl (k:=k) (by rw[yy HL];exact hkn) (nz (yy HT) (by unfold aU;rw[hwi];simp)));rw[hwi]at cW;refine dg ?_;repeat (go_big_quiet_step (with_reducible first | exact aO cI | exact aO cR | exact aO cW))
       refine dv fun dq osq=>?_;have hx:=ak (yy HB1) (below_regrown W1 dq osq);go_wp2_with fail;go_ret;exact⟨by rw[yy HO];rfl,hx⟩
      ·rw[hwi]at cW;have hq:=fun W=>lx (wrap64 (s2.tdiv (gI s2 s3 s4))) (wrap64 (s3.tdiv (gI s2 s3 s4))) (wrap64 (s4.tdiv (gI s2 s3 s4))) s2 s3 s4 W;have hq2:eqB (wrap64 (s2.tdiv (gI s2 s3 s4))) (wrap64 (s3.tdiv (gI s2 s3 s4))) (wrap64 (s4.tdiv (gI s2 s3 s4))) s2 s3 s4=fG s2 s3 s4:=by rw[wt];unfold fG prI;rw[hr];rfl
       rw[hq2]at hq;clear hq2;generalize wrap64 (s2.tdiv (gI s2 s3 s4))=t2 at cP hq;generalize wrap64 (s3.tdiv (gI s2 s3 s4))=t3 at cP hq;generalize wrap64 (s4.tdiv (gI s2 s3 s4))=t4 at cP hq;cases hpr:fG s2 s3 s4
       ·have HO:Hid (bc L=false):=yz (jl (k:=k) (by rw[yy HL];exact hkn) (xA (yy HT) hpr));rw[hpr]at hq;refine dg ?_;repeat (go_big_quiet_step (with_reducible first | exact aO cI | exact aO cR | exact aO cW | exact aO cP))
        refine dv fun dq osq=>?_;have hx:=ak (yy HB1) (below_regrown W1 dq osq);go_wp2_with fail;go_ret;exact⟨by rw[yy HO];rfl,hx⟩
       ·rw[hpr]at hq;have HM:Hid (aU s2 s3 s4=true):=yz (by unfold aU;rw[hr,hwi];rfl);have HI:=yz hid;have HPR:=yz hpr;refine dg ?_;repeat (go_big_quiet_step (with_reducible first | exact aO cI | exact aO cR | exact aO cW | exact aO cP))
        refine dv fun dq osq=>?_;have hx:=below_regrown W1 dq osq;have hb2:=ak (yy HB1) hx;have hn2:=(yy HN1).kept (vlt (yy HN1)) hx;generalize grow (redrawn W1 dq) osq=W2 at hb2 hn2 hx ⊢;have HB2:=yz hb2;have HN2:=yz hn2;clear hx hb2 hn2 r0 r1 r2 q0 hq cI cR cW cP hid hpr hwi hr HB1 HN1 q1 hup2;go_wp2_with fail;go_loopw [5] (fun i wr=>∃m:Nat,m≤k∧i=J Z m∧Hid (ow L (stA L (k)) m)∧Hid (Below w.heap.size w wr)∧Hid (aK wr vb s2 s3 s4)) (fun i _=>(k)-(intOf i).toNat)
        case atStart=>exact⟨0,by omega,rfl,yz (fun j hj=>absurd hj (Nat.not_lt_zero _)),HB2,HN2⟩
        case round=>
         obtain⟨m,hm,rfl,HE,HB3,HN3⟩:=hrel;by_cases hmk:m<k
         ·obtain⟨⟨t1,t2,t3,t4⟩,ht⟩:∃s,stA L m=s:=⟨_,rfl⟩
          have hst:=((yy HC) m (by omega)).kept hb (yy HB3);rw[ht]at hst;have hmn:(m:Int)<(n:Int):=by omega
          have hmj:(m:Int)<(k:Int):=by omega
          obtain⟨_,g1,g2,g3⟩:=hst;have k1:=cell_regrown g1;have k2:=cell_regrown g2;have k3:=cell_regrown g3;clear g1 g2 g3;obtain⟨v0,v1,v2⟩:=yy HN3;have r0:=cell_regrown v0;have r1:=cell_regrown v1;have r2:=cell_regrown v2;clear v0 v1 v2
          have HQ:Hid (pp (stA L k) (stA L m)=(eqB (crW t3 t4 s3 s4) (crW t4 t2 s4 s2) (crW t2 t3 s2 s3) 0 0 0&&decide (0<bG t2 t3 t4 s2 s3 s4))):=yz (by
           have hsm:=fM ((yy HF) m (by omega));rw[ht]at hsm;have e:=Fb hsm (yy HM);rw[zp hsm (yy HM)]at e;rw[ht,yy HT]
           exact e.symm)
          have cE:=yz (fun W=>kO t2 t3 t4 s2 s3 s4 W);generalize (eqB (crW t3 t4 s3 s4) (crW t4 t2 s4 s2) (crW t2 t3 s2 s3) 0 0 0&&decide (0<bG t2 t3 t4 s2 s3 s4))=y at HQ cE;clear ht;go_wp2_with fail;refine dg ?_;repeat (go_big_quiet_step (with_reducible first | exact aO cE))
          refine dv fun dq osq=>?_;have hx:=below_regrown wr dq osq;have hb4:=ak (yy HB3) hx;have hn4:=(yy HN3).kept (vlt (yy HN3)) hx;generalize grow (redrawn wr dq) osq=W4 at hx hb4 hn4 ⊢;have HB4:=yz hb4;have HN4:=yz hn4;clear hx hb4 hn4 r0 r1 r2 k1 k2 k3 cE HB3 HN3;cases y
          ·go_wp2_with fail;go_roundw
           case rel=>exact⟨m+1,by omega,by go_num,yz (tr (yy HE) (yy HQ)),HB4,HN4⟩
           case measure=>simp[intOf];omega
          ·have HO:Hid (bc L=false):=yz (jl (k:=k) (by rw[yy HL];exact hkn) (Dx (ua hmk (yy HQ))));go_wp2_with fail;go_ret;exact⟨by rw[yy HO];rfl,yy HB4⟩
         ·have hmk':m=k:=by omega
          subst hmk';have HF2:=yz (vg (yy HF) (xB (yy HT) (yy HI) (yy HU) (yy HM) (yy HPR) (rS (yy HE))));go_wp2_with fail;go_roundw
          case rel=>exact⟨m+1,by omega,by go_num,HF2,HB3⟩
          case measure=>simp[intOf];omega
  ·have hkn':k=n:=by omega
   subst hkn';have HO:=yz (vq (L:=L) (by rw[yy HL];omega) (by rw[yy HL];exact yy HF));go_wp2_with fail;go_ret;exact⟨by rw[yy HO];rfl,yy HB⟩
end
section
open Go.RowKit Go.Sort
def Cg(w:World)(b o:Nat):Prop:=w.frozen? ⟨b,o,none⟩=false∧w.frozen? ⟨b,o+1,none⟩=false∧w.frozen? ⟨b,o+2,none⟩=false∧w.frozen? ⟨b,o+3,none⟩=false
theorem Cg.kept{w w':World}{b o:Nat}(h:Cg w b o)(hb:b<w.heap.size)(hB:Below w.heap.size w w'):Cg w' b o:=by
 obtain⟨h0,h1,h2,h3⟩:=h;exact⟨by rw[hB.frozen (p:=⟨b,o,none⟩) hb];exact h0,by rw[hB.frozen (p:=⟨b,o+1,none⟩) hb];exact h1,by rw[hB.frozen (p:=⟨b,o+2,none⟩) hb];exact h2,by rw[hB.frozen (p:=⟨b,o+3,none⟩) hb];exact h3⟩
def mM(w:World)(b n:Nat)(L:List St)(k:Nat):Prop:=∃cur:Array Value,w.heap[b]? = some (.cells cur 74 (0,0))∧cur.size=n*4 ∧
 ∀j,j<k→cur[j*4]? = some (.int .i64 (stA L j).1)∧cur[j*4+1]? = some (.int .i64 (stA L j).2.1)∧cur[j*4+2]? = some (.int .i64 (stA L j).2.2.1)∧cur[j*4+3]? = some (.int .i64 (stA L j).2.2.2)
variable {w:World}
theorem mM.lt{b n k:Nat}{L:List St}(h:mM w b n L k):b<w.heap.size:=by
 obtain⟨cur,hc,_⟩:=h;exact(Array.getElem?_eq_some_iff.1 hc).1
theorem mM.kept{w':World}{b n k:Nat}{L:List St}(h:mM w b n L k)(hB:Below w.heap.size w w'):mM w' b n L k:=by
 have hl:=h.lt;obtain⟨cur,hc,r⟩:=h;exact⟨cur,by rw[hB.block b hl];exact hc,r⟩
theorem mM.stars{b n k:Nat}{L:List St}(h:mM w b n L k):aZ w (some ⟨b,0,none⟩) L k:=by
 have hl:=h.lt;obtain⟨cur,hc,_,hs⟩:=h;refine .inr ⟨b,0,rfl,hl,fun i hi=>?_⟩;obtain⟨h0,h1,h2,h3⟩:=hs i hi;rw[Nat.zero_add];exact⟨by rw[cell_of_row w b _ cur _ _ hc];exact h0,by rw[cell_of_row w b _ cur _ _ hc];exact h1,by rw[cell_of_row w b _ cur _ _ hc];exact h2,by rw[cell_of_row w b _ cur _ _ hc];exact h3⟩
theorem mM.free{b n k:Nat}{L:List St}(h:mM w b n L k)(i:Nat):w.frozen? ⟨b,i,none⟩=false:=by
 obtain⟨cur,hc,_⟩:=h;exact frozen_of_row w b i cur _ hc
theorem oB:(Tryz.prog.info? 74).map (fun i=>(i.zero,i.size,i.bytes))=some (some (.agg #[.int .i64 0,.int .i64 0,.int .i64 0,.int .i64 0]),4,32):=by kernel_rfl
end
section
open Go.RowKit
def inT(m a b c d:Int):Bool:=inB m a&&inB m b&&inB m c&&inB m d
def iO(a b c d:Int):Bool:=decide (a=0∧b=0∧c=0∧d=0)
def fT(a b c d:Int):Int:=if a≠0 then a else if b≠0 then b else if c≠0 then c else d
def gT(a b c d:Int):Int:=((Int.gcd ((Int.gcd a b:Nat):Int) ((Int.gcd c d:Nat):Int):Nat):Int)
def sT(a b c d:Int):Int:=if fT a b c d<0 then -gT a b c d else gT a b c d
def aD(a b c d:Int):Bool:=inT 5 a b c d&&decide (0<fT a b c d)&&decide (gT a b c d=1)
def eqT(a b c d a' b' c' d':Int):Bool:=decide (a=a'∧b=b'∧c=c'∧d=d')
variable {m s x:Int}
theorem bU{a b c d:Int}:inT m a b c d=true↔(-m≤a∧a≤m)∧(-m≤b∧b≤m)∧(-m≤c∧c≤m)∧(-m≤d∧d≤m):=by
 simp[inT,il,and_assoc]
theorem qN{n a b c d:Int}(h:inT m a b c d=true)(hmn:m≤n):inT n a b c d=true:=by
 rw[bU]at h ⊢;omega
theorem pR{a b c d:Int}:fT a b c d=0↔(a=0∧b=0∧c=0∧d=0):=by
 unfold fT;split
 ·omega
 ·split
  ·omega
  ·split<;>omega
theorem FM(a b c d:Int):fT a b c d=a∨fT a b c d=b∨fT a b c d=c∨fT a b c d=d:=by
 unfold fT;split
 ·exact .inl rfl
 ·split
  ·exact .inr (.inl rfl)
  ·split
   ·exact .inr (.inr (.inl rfl))
   ·exact .inr (.inr (.inr rfl))
theorem AX(a b c d:Int):0≤gT a b c d:=Int.natCast_nonneg _
theorem FP{a b c d:Int}(h:¬(a=0∧b=0∧c=0∧d=0)):0<gT a b c d:=by
 unfold gT
 have h2:Int.gcd ((Int.gcd a b:Nat):Int) ((Int.gcd c d:Nat):Int)≠0:=by
  intro e;rw[Int.gcd_eq_zero_iff]at e;have e1:Int.gcd a b=0:=by omega
  have e2:Int.gcd c d=0:=by omega
  rw[Int.gcd_eq_zero_iff]at e1 e2;exact h ⟨e1.1,e1.2,e2.1,e2.2⟩
 omega
theorem qI(a b c d:Int):((Int.gcd ((Int.gcd ((Int.gcd ((Int.gcd 0 a:Nat):Int) b:Nat):Int) c:Nat):Int) d:Nat):Int)=gT a b c d:=by
 unfold gT
 have h1:Int.gcd ((Int.gcd 0 a:Nat):Int) b=Int.gcd a b:=by
  rw[Int.gcd_zero_left];show Nat.gcd (a.natAbs:Int).natAbs b.natAbs=Nat.gcd a.natAbs b.natAbs;rw[Int.natAbs_natCast]
 rw[h1];show ((Nat.gcd (Nat.gcd (Int.gcd a b) c.natAbs) d.natAbs:Nat):Int)=((Nat.gcd (Int.gcd a b) (Nat.gcd c.natAbs d.natAbs):Nat):Int);rw[Nat.gcd_assoc]
theorem FD{a b c d:Int}(h:¬(a=0∧b=0∧c=0∧d=0)):sT a b c d≠0:=by
 have:=FP h;unfold sT;split<;>omega
theorem iu{f:Int}(hf:f≠0)(h:f.tdiv s=f):s=1:=by
 have hn:f.natAbs / s.natAbs=f.natAbs:=by
  have e:(f.tdiv s).natAbs=f.natAbs / s.natAbs:=Int.natAbs_tdiv f s;rw[←e,h]
 have h0:s.natAbs≠0:=by
  intro e;rw[e,Nat.div_zero]at hn;omega
 have h1:s.natAbs<2:=by
  rcases Nat.lt_or_ge s.natAbs 2 with h | h
  ·exact h
  ·have:=Nat.div_lt_self (n:=f.natAbs) (k:=s.natAbs) (by omega) h;omega
 rcases(show s=1∨s = -1 by omega) with e | e
 ·exact e
 ·rw[e,Int.tdiv_neg,Int.tdiv_one]at h;omega
theorem Av(hx:-m≤x∧x≤m):-m≤x.tdiv s∧x.tdiv s≤m:=by
 have h:(x.tdiv s).natAbs≤x.natAbs:=by rw[Int.natAbs_tdiv];exact Nat.div_le_self _ _
 omega
theorem sC{a b c d:Int}(hz:¬(a=0∧b=0∧c=0∧d=0)):
  eqT a b c d (a.tdiv (sT a b c d)) (b.tdiv (sT a b c d)) (c.tdiv (sT a b c d)) (d.tdiv (sT a b c d))=(decide (0<fT a b c d)&&decide (gT a b c d=1)):=by
 have hf:fT a b c d≠0:=fun e=>hz (pR.1 e);rw[Bool.eq_iff_iff,Bool.and_eq_true,decide_eq_true_iff,decide_eq_true_iff];unfold eqT;rw[decide_eq_true_iff];constructor
 ·rintro ⟨h1,h2,h3,h4⟩
  have hs:sT a b c d=1:=by
   rcases FM a b c d with e | e | e | e
   ·exact iu (e ▸ hf) h1.symm
   ·exact iu (e ▸ hf) h2.symm
   ·exact iu (e ▸ hf) h3.symm
   ·exact iu (e ▸ hf) h4.symm
  have hg:=AX a b c d;unfold sT at hs;split at hs<;>omega
 ·rintro ⟨h1,h2⟩;have hs:sT a b c d=1:=by unfold sT;rw[if_neg (by omega),h2]
  rw[hs];simp[Int.tdiv_one]
theorem bg{a b c d:Int}:aD a b c d=true↔inT 5 a b c d=true∧0<fT a b c d∧gT a b c d=1:=by
 simp[aD,and_assoc]
theorem lC{a b c d:Int}(h:aD a b c d=true):¬(a=0∧b=0∧c=0∧d=0):=by
 have:=(bg.1 h).2.1;intro e;rw[pR.2 e]at this;omega
def ofC(a b c d:Int):Int:=
 if inT 1000 a b c d && !iO a b c d then
  if aD (a.tdiv (sT a b c d)) (b.tdiv (sT a b c d)) (c.tdiv (sT a b c d)) (d.tdiv (sT a b c d)) then 0 else 9
 else 1
def ofP(a b c d x:Int):Int:=if ofC a b c d=0 then x.tdiv (sT a b c d) else 0
theorem Du{a b c d:Int}(h:(inT 1000 a b c d && !iO a b c d)=false):ofC a b c d=1:=by unfold ofC;rw[h];rfl
theorem jJ{a b c d:Int}:iO a b c d=true↔(a=0∧b=0∧c=0∧d=0):=by simp[iO]
theorem Bx{a b c d:Int}(h:ofC a b c d=0):inT 1000 a b c d=true∧¬(a=0∧b=0∧c=0∧d=0)∧aD (a.tdiv (sT a b c d)) (b.tdiv (sT a b c d)) (c.tdiv (sT a b c d)) (d.tdiv (sT a b c d))=true:=by
 unfold ofC at h;split at h
 ·next h1=>
  rw[Bool.and_eq_true,Bool.not_eq_true']at h1;split at h
  ·next h2=>exact⟨h1.1,fun e=>by rw[jJ.2 e]at h1;exact absurd h1.2 (by decide),h2⟩
  ·exact absurd h (by decide)
 ·exact absurd h (by decide)
def nT(a b c d:Int):Int:=a*a+b*b+c*c+d*d
theorem sqn(x:Int):0≤x*x:=by rw[←Int.natAbs_mul_self' x];exact Int.natCast_nonneg _
theorem sqp(h:x≠0):0<x*x:=by
 have:=sqn x;have:x*x≠0:=fun e=>by rcases Int.mul_eq_zero.1 e with e | e<;>exact h e
 omega
theorem zg{a b c d:Int}(h:¬(a=0∧b=0∧c=0∧d=0)):0<nT a b c d:=by
 have h1:=sqn a;have h2:=sqn b;have h3:=sqn c;have h4:=sqn d;unfold nT;by_cases ha:a=0
 ·by_cases hb:b=0
  ·by_cases hc:c=0
   ·have:=sqp (x:=d) (fun e=>h ⟨ha,hb,hc,e⟩);omega
   ·have:=sqp hc;omega
  ·have:=sqp hb;omega
 ·have:=sqp ha;omega
theorem Gw{a b c d:Int}(h:inT 5 a b c d=true):nT a b c d≤100:=by
 rw[bU]at h;have h1:=bR h.1 h.1;have h2:=bR h.2.1 h.2.1;have h3:=bR h.2.2.1 h.2.2.1;have h4:=bR h.2.2.2 h.2.2.2;unfold nT;omega
def apX(a b c d x y z:Int):Int:=(a*a+b*b-c*c-d*d)*x+2*(b*c-a*d)*y+2*(b*d+a*c)*z
def apY(a b c d x y z:Int):Int:=2*(b*c+a*d)*x+(a*a-b*b+c*c-d*d)*y+2*(c*d-a*b)*z
def apZ(a b c d x y z:Int):Int:=2*(b*d-a*c)*x+2*(c*d+a*b)*y+(a*a-b*b-c*c+d*d)*z
theorem ql(a b c d x y z x' y' z':Int):
  dot (apX a b c d x y z) (apY a b c d x y z) (apZ a b c d x y z) (apX a b c d x' y' z') (apY a b c d x' y' z') (apZ a b c d x' y' z')=nT a b c d*nT a b c d*dot x y z x' y' z':=by
 unfold dot apX apY apZ nT;grind
def coA(s1 s2 s3 s4 t1 t2 t3 t4:Int):Int:=s1*t1-s2*t2-s3*t3-s4*t4
def coB(s1 s2 s3 s4 t1 t2 t3 t4:Int):Int:=s1*t2+s2*t1+s3*t4-s4*t3
def coC(s1 s2 s3 s4 t1 t2 t3 t4:Int):Int:=s1*t3-s2*t4+s3*t1+s4*t2
def coD(s1 s2 s3 s4 t1 t2 t3 t4:Int):Int:=s1*t4+s2*t3-s3*t2+s4*t1
end
section
open Go.Value renaming int → J
open Go.IntKind renaming i64 → Z
open Go.RowKit Go.Sort
theorem Calls.regrown_same{P:Program}{f:FuncId}{args:Array Value}{w:World}{d:Nat}{os:Array Obj}{v:Value}
  (h:Calls P f args (grow (redrawn w d) os) fun e w'=>e=.returned v∧w'=grow (redrawn w d) os):Calls P f args (grow (redrawn w d) os) fun e w''=>e=.returned v∧∃p:Regrown,w''=grow (redrawn w p.d) p.os:=
 h.mono fun _ _ ⟨he,hm⟩=>⟨he,⟨d,os⟩,hm⟩
theorem yx(a1 a2 a3 b1 b2 b3 c1 c2 c3 d1 d2 d3:Int)(w:World):
  Calls Tryz.prog 206 #[.agg #[J Z a1,J Z a2,J Z a3],.agg #[J Z b1,J Z b2,J Z b3],.agg #[J Z c1,J Z c2,J Z c3],.agg #[J Z d1,J Z d2,J Z d3]] w fun e w'=>e=.returned (J Z (oq a1 a2 a3 b1 b2 b3 c1 c2 c3 d1 d2 d3))∧Below w.heap.size w w':=by
 go_enter Tryz.func206,Tryz.ntmps206;go_wp2_with fail;refine(jW a1 a2 a3 _).mono ?_;rintro e w1 ⟨rfl,hB1⟩;have hB:Below w.heap.size w w1:=ak (Cp _ _ _ _ _) hB1;have hs:w.heap.size+4≤w1.heap.size:=by have:=hB1.size;simpa[Nat.add_assoc] using this
 have va:aK w1 w.heap.size a1 a2 a3:=((((by simpa using aM w a1 a2 a3 _:aK _ w.heap.size a1 a2 a3).alloc (by simp<;>omega) _).alloc (by simp<;>omega) _).alloc (by simp<;>omega) _).kept (by simp<;>omega) hB1;have vb:aK w1 (w.heap.size+1) b1 b2 b3:=(((by simpa using aM (w.alloc _) b1 b2 b3 _:aK _ (w.heap.size+1) b1 b2 b3).alloc (by simp<;>omega) _).alloc (by simp<;>omega) _).kept (by simp<;>omega) hB1;have vc:aK w1 (w.heap.size+1+1) c1 c2 c3:=((by simpa using aM ((w.alloc _).alloc _) c1 c2 c3 _:aK _ (w.heap.size+1+1) c1 c2 c3).alloc (by simp<;>omega) _).kept (by simp<;>omega) hB1;have vd:aK w1 (w.heap.size+1+1+1) d1 d2 d3:=(by simpa using aM (((w.alloc _).alloc _).alloc _) d1 d2 d3 _:aK _ (w.heap.size+1+1+1) d1 d2 d3).kept (by simp<;>omega) hB1;clear hB1;have hva:=va;obtain⟨ca0,ca1,ca2⟩:=va;have hvb:=vb;obtain⟨cb0,cb1,cb2⟩:=vb;have hvc:=vc;obtain⟨cc0,cc1,cc2⟩:=vc;have hvd:=vd;obtain⟨cd0,cd1,cd2⟩:=vd;cases ha:dy a1 a2 a3
 ·go_wp2_with fail;go_ret;exact⟨by simp[oq,ha],hB⟩
 ·go_wp2_with fail;refine(jW b1 b2 b3 _).mono ?_;rintro e w2 ⟨rfl,hB2⟩;have va:=hva.kept (by omega) hB2;have vb:=hvb.kept (by omega) hB2;have vc:=hvc.kept (by omega) hB2;have vd:=hvd.kept (by omega) hB2;replace hs:w.heap.size+4≤w2.heap.size:=by have:=hB2.size;omega
  replace hB:Below w.heap.size w w2:=ak hB hB2;clear hva ca0 ca1 ca2 hvb cb0 cb1 cb2 hvc cc0 cc1 cc2 hvd cd0 cd1 cd2;clear hB2;have hva:=va;obtain⟨ca0,ca1,ca2⟩:=va;have hvb:=vb;obtain⟨cb0,cb1,cb2⟩:=vb;have hvc:=vc;obtain⟨cc0,cc1,cc2⟩:=vc;have hvd:=vd;obtain⟨cd0,cd1,cd2⟩:=vd;cases hb:dy b1 b2 b3
  ·go_wp2_with fail;go_ret;exact⟨by simp[oq,hb],hB⟩
  ·go_wp2_with fail;refine(gd c1 c2 c3 _).mono ?_;rintro e w3 ⟨rfl,hB3⟩;have va:=hva.kept (by omega) hB3;have vb:=hvb.kept (by omega) hB3;have vc:=hvc.kept (by omega) hB3;have vd:=hvd.kept (by omega) hB3;replace hs:w.heap.size+4≤w3.heap.size:=by have:=hB3.size;omega
   replace hB:Below w.heap.size w w3:=ak hB hB3;clear hva ca0 ca1 ca2 hvb cb0 cb1 cb2 hvc cc0 cc1 cc2 hvd cd0 cd1 cd2;clear hB3;have hva:=va;obtain⟨ca0,ca1,ca2⟩:=va;have hvb:=vb;obtain⟨cb0,cb1,cb2⟩:=vb;have hvc:=vc;obtain⟨cc0,cc1,cc2⟩:=vc;have hvd:=vd;obtain⟨cd0,cd1,cd2⟩:=vd;cases hc:aU c1 c2 c3
   ·go_wp2_with fail;go_ret;exact⟨by simp[oq,hc],hB⟩
   ·go_wp2_with fail;refine(gd d1 d2 d3 _).mono ?_;rintro e w4 ⟨rfl,hB4⟩;have va:=hva.kept (by omega) hB4;have vb:=hvb.kept (by omega) hB4;have vc:=hvc.kept (by omega) hB4;have vd:=hvd.kept (by omega) hB4;replace hs:w.heap.size+4≤w4.heap.size:=by have:=hB4.size;omega
    replace hB:Below w.heap.size w w4:=ak hB hB4;clear hva ca0 ca1 ca2 hvb cb0 cb1 cb2 hvc cc0 cc1 cc2 hvd cd0 cd1 cd2;clear hB4;have hva:=va;obtain⟨ca0,ca1,ca2⟩:=va;have hvb:=vb;obtain⟨cb0,cb1,cb2⟩:=vb;have hvc:=vc;obtain⟨cc0,cc1,cc2⟩:=vc;have hvd:=vd;obtain⟨cd0,cd1,cd2⟩:=vd;cases hd:aU d1 d2 d3
    ·go_wp2_with fail;go_ret;exact⟨by simp[oq,hd],hB⟩
    ·go_wp2_with fail;have HD:=yz (FH ha hb hc hd);have ka0:=cell_regrown ca0;have ka1:=cell_regrown ca1;have ka2:=cell_regrown ca2;have kb0:=cell_regrown cb0;have kb1:=cell_regrown cb1;have kb2:=cell_regrown cb2;have kc0:=cell_regrown cc0;have kc1:=cell_regrown cc1;have kc2:=cell_regrown cc2;have kd0:=cell_regrown cd0;have kd1:=cell_regrown cd1;have kd2:=cell_regrown cd2;refine dg ?_;repeat (quiet_step (first | exact Calls.regrown_of (us _ _ _ _ _ _ _) | exact Calls.regrown_same (rA _ _) | exact Calls.regrown_of (pk _ _ _ _ _ _ _)))
     refine dv fun dq osq=>?_;have hb':=below_regrown w4 dq osq;replace hB:=ak hB hb';have va:=hva.kept (by omega) hb';have vb:=hvb.kept (by omega) hb';have vc:=hvc.kept (by omega) hb';have vd:=hvd.kept (by omega) hb';clear ca0 ka0 ca1 ka1 ca2 ka2 cb0 kb0 cb1 kb1 cb2 kb2 cc0 kc0 cc1 kc1 cc2 kc2 cd0 kd0 cd1 kd1 cd2 kd2;generalize grow (redrawn w4 dq) osq=w5 at hB hb' va vb vc vd ⊢;obtain⟨ca0,ca1,ca2⟩:=va;obtain⟨cb0,cb1,cb2⟩:=vb;obtain⟨cc0,cc1,cc2⟩:=vc;obtain⟨cd0,cd1,cd2⟩:=vd;clear hb' hva hvb hvc hvd;go_wp2_with fail;have ka0:=cell_regrown ca0;have ka1:=cell_regrown ca1;have ka2:=cell_regrown ca2;have kb0:=cell_regrown cb0;have kb1:=cell_regrown cb1;have kb2:=cell_regrown cb2;have kc0:=cell_regrown cc0;have kc1:=cell_regrown cc1;have kc2:=cell_regrown cc2;have kd0:=cell_regrown cd0;have kd1:=cell_regrown cd1;have kd2:=cell_regrown cd2;refine dg ?_;repeat (quiet_step (first | exact Calls.regrown_of (us _ _ _ _ _ _ _) | exact Calls.regrown_same (rA _ _) | exact Calls.regrown_of (pk _ _ _ _ _ _ _)))
     refine dv fun dq osq=>?_;replace hB:=ak hB (below_regrown w5 dq osq);clear ca0 ka0 ca1 ka1 ca2 ka2 cb0 kb0 cb1 kb1 cb2 kb2 cc0 kc0 cc1 kc1 cc2 kc2 cd0 kd0 cd1 kd1 cd2 kd2;go_wp2_with fail;refine(oK _ _ _).mono ?_;rintro e w7 ⟨rfl,rfl⟩;go_wp2_with fail;go_ret;exact⟨by rw[yy HD];rfl,hB⟩
end
section
structure Fr where
 wd:Nat
 ht:Nat
 px:Nat→Nat
 lv:Int
def Fr.n(f:Fr):Nat:=f.wd*f.ht
def cnt(T:Nat→Bool):Nat→Nat
 | 0=>0
 | n+1=>cnt T n+if T n=true then 1 else 0
theorem Cu(T:Nat→Bool):∀n,cnt T n≤n
 | 0=>Nat.le_refl _
 | n+1=>by unfold cnt;have:=Cu T n;split<;>omega
structure Good (f:Fr) (c:Nat) (s:(Nat→Bool)×List Nat):Prop where
 num:cnt s.1 f.n=c+s.2.length
 lies:∀j∈s.2,j<f.n
theorem Good.len{f:Fr}{c:Nat}{s:(Nat→Bool)×List Nat}(h:Good f c s):c+s.2.length≤f.n:=by rw[←h.num];exact Cu _ _
structure Bl where
 ar:Nat
 su:Nat
 sx:Nat
 sy:Nat
 ed:Bool
end
end Go.Proofs.YtdchjcadhlkpfaaGreatDoor
