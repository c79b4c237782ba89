/- Several texts in one: LkC, LkD, LkE, LkF, LkG. -/
import Derived.Test.YteoonaanoenjiaaGreatDoorL42
namespace Go.Proofs.YteoonaanoenjiaaGreatDoor
set_option linter.unusedVariables false
set_option linter.unusedSimpArgs false
set_option maxRecDepth 100000
set_option maxHeartbeats 8000000
section
open Go.Value renaming int → J
open Go.IntKind renaming i64 → Y
open Go.RowKit Go.Sort
theorem wB(L:List St)(S:List D3)(lim mode A B C D coast fr:Int)(ar br:Option Addr)(cr dr:Nat)(p:Addr)(w:World)(hn:L.length≤1048576)(hcap:L.length≤cr)(hc9:cr≤9223372036854775807)(hn2:S.length≤1048576)(hcap2:S.length≤dr)(hd9:dr≤9223372036854775807)(hS:aH w ar L L.length)(hD:bi w br S S.length)(hA:∀y,ar=some y→y.block<w.heap.size)(hB:∀y,br=some y→y.block<w.heap.size)(hE:bm p w)(hm:mode=0∨mode=1∨mode=2)(hc0:0≤coast)(hc5:coast≤5)(hf0:0≤fr)(hf1:fr≤1000000):
  Calls Tryz.prog 114 #[.agg #[.slice ar L.length cr,J Y lim,J Y mode,J Y A,J Y B,J Y C,J Y D,J Y coast,J Y fr],.slice br S.length dr] w fun e w'=>e=.returned (tkV ar L.length cr (eG ⟨L,lim,mode,A,B,C,D,coast,fr⟩ S))∧Below w.heap.size w w':=by
 have hwr:wrap64 (fr+1)=fr+1:=aq (by omega) (by omega);have B0:=yz (aF w (.cells #[.slice ar L.length cr,J Y lim,J Y mode,J Y A,J Y B,J Y C,J Y D,J Y coast,J Y (fr+1)] 92) (.cells #[.slice none 0 0,J Y 0,J Y 0,J Y 0,J Y 0,J Y 0,J Y 0,J Y 0,J Y 0] 92));have A0:=yz ((ap w [.slice ar L.length cr,J Y lim,J Y mode,J Y A,J Y B,J Y C,J Y D,J Y coast,J Y (fr+1)] 92).alloc (.cells #[.slice none 0 0,J Y 0,J Y 0,J Y 0,J Y 0,J Y 0,J Y 0,J Y 0,J Y 0] 92));have R0:=yz (by simpa using ap (w.alloc (.cells #[.slice ar L.length cr,J Y lim,J Y mode,J Y A,J Y B,J Y C,J Y D,J Y coast,J Y (fr+1)] 92)) [.slice none 0 0,J Y 0,J Y 0,J Y 0,J Y 0,J Y 0,J Y 0,J Y 0,J Y 0] 92:Blk ((w.alloc (.cells #[.slice ar L.length cr,J Y lim,J Y mode,J Y A,J Y B,J Y C,J Y D,J Y coast,J Y (fr+1)] 92)).alloc (.cells #[.slice none 0 0,J Y 0,J Y 0,J Y 0,J Y 0,J Y 0,J Y 0,J Y 0,J Y 0] 92)) (w.heap.size+1) [.slice none 0 0,J Y 0,J Y 0,J Y 0,J Y 0,J Y 0,J Y 0,J Y 0,J Y 0] 92);have cC:=yz (fun (W:World) (h:Below w.heap.size w W)=>xJ L S ar br cr dr A B C D p W hn hcap hc9 hn2 hcap2 hd9 (hS.kept h) (hD.kept h) (hE.kept h));have cT:=yz (fun (W:World) (h:Below w.heap.size w W)=>zw L S ar br cr dr p W hn hcap hc9 hn2 hcap2 hd9 (hS.kept h) (hD.kept h) (fun y e=>Nat.lt_of_lt_of_le (hA y e) h.size) (fun y e=>Nat.lt_of_lt_of_le (hB y e) h.size) (hE.kept h));have cU:=yz (fun (W:World)=>xt L lim mode A B C D coast (fr+1) ar L.length cr W hm hc0 (by omega));have hO1:Hid (mode≠0→2≤aQ (bV L A B C D S)→tkV ar L.length cr (eG ⟨L,lim,mode,A,B,C,D,coast,fr⟩ S)=.agg #[.slice ar L.length cr,J Y lim,J Y 1,J Y A,J Y B,J Y C,J Y D,J Y 0,J Y (fr+1)]):=yz (fun h1 h2=>by unfold eG;rw[if_pos ⟨h1,h2⟩];rfl);have hO2:Hid (¬(mode≠0∧2≤aQ (bV L A B C D S))→(bH L S).2=0→tkV ar L.length cr (eG ⟨L,lim,mode,A,B,C,D,coast,fr⟩ S)=.agg #[.slice ar L.length cr,J Y lim,J Y 1,J Y (bH L S).1.1,J Y (bH L S).1.2.1,J Y (bH L S).1.2.2.1,J Y (bH L S).1.2.2.2,J Y 0,J Y (fr+1)]):=yz (fun h1 h2=>by unfold eG;rw[if_neg h1,if_pos h2];rfl);have hO3:Hid (¬(mode≠0∧2≤aQ (bV L A B C D S))→(bH L S).2≠0→tkV ar L.length cr (eG ⟨L,lim,mode,A,B,C,D,coast,fr⟩ S)=.agg #[.slice ar L.length cr,J Y (bz ⟨L,lim,mode,A,B,C,D,coast,fr+1⟩).lim,J Y (bz ⟨L,lim,mode,A,B,C,D,coast,fr+1⟩).mode,J Y (bz ⟨L,lim,mode,A,B,C,D,coast,fr+1⟩).A,J Y (bz ⟨L,lim,mode,A,B,C,D,coast,fr+1⟩).B,J Y (bz ⟨L,lim,mode,A,B,C,D,coast,fr+1⟩).C,J Y (bz ⟨L,lim,mode,A,B,C,D,coast,fr+1⟩).D,J Y (bz ⟨L,lim,mode,A,B,C,D,coast,fr+1⟩).coast,J Y (bz ⟨L,lim,mode,A,B,C,D,coast,fr+1⟩).fr]):=yz (fun h1 h2=>by unfold eG;rw[if_neg h1,if_neg h2];rfl);generalize aQ (bV L A B C D S)=cn at *;obtain⟨⟨⟨t1,t2,t3,t4⟩,tc⟩,htv⟩:∃z,bH L S=z:=⟨_,rfl⟩
 rw[htv]at hO2 hO3 cT;dsimp only at hO2 hO3 cT;obtain⟨uv,huv⟩:∃u,bz ⟨L,lim,mode,A,B,C,D,coast,fr+1⟩=u:=⟨_,rfl⟩
 rw[huv]at hO3 cU;obtain⟨uL,u1,u2,u3,u4,u5,u6,u7,u8⟩:=uv;unfold tkV at cU;dsimp only at cU hO3;have HL:=yz htv;clear hS hD hE htv huv hA hB hm;by_cases h1:mode=0
 ·have hneg:¬(mode≠0∧2≤cn):=fun h=>h.1 h1;subst h1;go_enter Tryz.func114,Tryz.ntmps114;go_wp2_with fail;refine(yx cT _ (yx B0)).mono ?_;rintro e w2 ⟨rfl,hx⟩;have Z:=ak w2 (.cells #[J Y t1,J Y t2,J Y t3,J Y t4,J Y tc] 156);have B2:=aA (aA B0 hx) Z;have A2:=aI A0 hx Z;have R2:=aI R0 hx Z;have T2:=yz (ap w2 [J Y t1,J Y t2,J Y t3,J Y t4,J Y tc] 156);clear hx Z;have q0:=dO (yx A2);have s0:=gL (yx T2);by_cases h3:tc=0
  ·have HO:=yz (yx hO2 hneg h3);clear hO1 hO2 hO3;subst h3;go_wp2_with fail;clear q0 s0;refine(kE lim _ A B C D coast (fr+1) t1 t2 t3 t4 ar L.length cr _).mono ?_;rintro e w3 ⟨rfl,hx⟩;have B3:=aA B2 hx;have R3:=an R2 hx;clear hx;have r0:=dO (yx R3);have g0:=kO (yx R3);go_wp2_with fail;clear r0 g0;rw[yx HO];refine bodyPost_ret (v:=.agg #[.slice ar L.length cr,J Y lim,J Y 1,J Y t1,J Y t2,J Y t3,J Y t4,J Y 0,J Y (fr+1)]) ?_ rfl ⟨rfl,?_⟩
   ·refine gC _ _ (w.heap.size+1) _ lim 1 t1 t2 t3 t4 0 (fr+1) rfl ?_;exact dU (lim0:=0) (mode0:=0) (A0:=0) (B0:=0) (C0:=0) (D0:=0) (coast0:=0) (fr0:=0) (u:=.slice none 0 0) ⟨(yx R3).cell 0 _ rfl,(yx R3).cell 1 _ rfl,(yx R3).cell 2 _ rfl,(yx R3).cell 3 _ rfl,(yx R3).cell 4 _ rfl,(yx R3).cell 5 _ rfl,(yx R3).cell 6 _ rfl,(yx R3).cell 7 _ rfl,(yx R3).cell 8 _ rfl⟩ _ lim 1 t1 t2 t3 t4 0 (fr+1)
   ·iterate 9 (refine aB ?_ (show w.heap.size≤w.heap.size+1 by omega) _ _)
    exact yx B3
  ·have HO:=yz (yx hO3 hneg h3);clear hO1 hO2 hO3;go_wp2_with fail;clear q0 s0;refine(yx cU _).mono ?_;rintro e w3 ⟨rfl,hx⟩;have B3:=aA B2 hx;have R3:=an R2 hx;clear hx;have r0:=dO (yx R3);have g0:=kO (yx R3);go_wp2_with fail;clear r0 g0;rw[yx HO];refine bodyPost_ret (v:=.agg #[.slice ar L.length cr,J Y u1,J Y u2,J Y u3,J Y u4,J Y u5,J Y u6,J Y u7,J Y u8]) ?_ rfl ⟨rfl,?_⟩
   ·refine gC _ _ (w.heap.size+1) _ u1 u2 u3 u4 u5 u6 u7 u8 rfl ?_;exact dU (lim0:=0) (mode0:=0) (A0:=0) (B0:=0) (C0:=0) (D0:=0) (coast0:=0) (fr0:=0) (u:=.slice none 0 0) ⟨(yx R3).cell 0 _ rfl,(yx R3).cell 1 _ rfl,(yx R3).cell 2 _ rfl,(yx R3).cell 3 _ rfl,(yx R3).cell 4 _ rfl,(yx R3).cell 5 _ rfl,(yx R3).cell 6 _ rfl,(yx R3).cell 7 _ rfl,(yx R3).cell 8 _ rfl⟩ _ u1 u2 u3 u4 u5 u6 u7 u8
   ·iterate 9 (refine aB ?_ (show w.heap.size≤w.heap.size+1 by omega) _ _)
    exact yx B3
 go_enter Tryz.func114,Tryz.ntmps114;go_wp2_with fail;refine(yx cC _ (yx B0)).mono ?_;rintro e w1 ⟨rfl,hx⟩;have B1:=aA B0 hx;have A1:=an A0 hx;have R1:=an R0 hx;clear hx B0 A0 R0;have q0:=dO (yx A1);by_cases h2:2≤cn
 ·have HO:=yz (yx hO1 h1 h2);clear hO1 hO2 hO3;have h2':(2:Int)≤(cn:Int):=by omega
  go_wp2_with fail;clear q0;refine(kE lim mode A B C D coast (fr+1) A B C D ar L.length cr _).mono ?_;rintro e w3 ⟨rfl,hx⟩;have B3:=aA B1 hx;have R3:=an R1 hx;clear hx;have r0:=dO (yx R3);have g0:=kO (yx R3);go_wp2_with fail;clear r0 g0;rw[yx HO];refine bodyPost_ret (v:=.agg #[.slice ar L.length cr,J Y lim,J Y 1,J Y A,J Y B,J Y C,J Y D,J Y 0,J Y (fr+1)]) ?_ rfl ⟨rfl,?_⟩
  ·refine gC _ _ (w.heap.size+1) _ lim 1 A B C D 0 (fr+1) rfl ?_;exact dU (lim0:=0) (mode0:=0) (A0:=0) (B0:=0) (C0:=0) (D0:=0) (coast0:=0) (fr0:=0) (u:=.slice none 0 0) ⟨(yx R3).cell 0 _ rfl,(yx R3).cell 1 _ rfl,(yx R3).cell 2 _ rfl,(yx R3).cell 3 _ rfl,(yx R3).cell 4 _ rfl,(yx R3).cell 5 _ rfl,(yx R3).cell 6 _ rfl,(yx R3).cell 7 _ rfl,(yx R3).cell 8 _ rfl⟩ _ lim 1 A B C D 0 (fr+1)
  ·iterate 9 (refine aB ?_ (show w.heap.size≤w.heap.size+1 by omega) _ _)
   exact yx B3
 have hneg:¬(mode≠0∧2≤cn):=fun h=>h2 h.2;have h2':¬(2:Int)≤(cn:Int):=by omega
 go_wp2_with fail;clear q0;refine(yx cT _ (yx B1)).mono ?_;rintro e w2 ⟨rfl,hx⟩;have Z:=ak w2 (.cells #[J Y t1,J Y t2,J Y t3,J Y t4,J Y tc] 156);have B2:=aA (aA B1 hx) Z;have A2:=aI A1 hx Z;have R2:=aI R1 hx Z;have T2:=yz (ap w2 [J Y t1,J Y t2,J Y t3,J Y t4,J Y tc] 156);clear hx Z;have q0:=dO (yx A2);have s0:=gL (yx T2);by_cases h3:tc=0
 ·have HO:=yz (yx hO2 hneg h3);clear hO1 hO2 hO3;subst h3;go_wp2_with fail;clear q0 s0;refine(kE lim _ A B C D coast (fr+1) t1 t2 t3 t4 ar L.length cr _).mono ?_;rintro e w3 ⟨rfl,hx⟩;have B3:=aA B2 hx;have R3:=an R2 hx;clear hx;have r0:=dO (yx R3);have g0:=kO (yx R3);go_wp2_with fail;clear r0 g0;rw[yx HO];refine bodyPost_ret (v:=.agg #[.slice ar L.length cr,J Y lim,J Y 1,J Y t1,J Y t2,J Y t3,J Y t4,J Y 0,J Y (fr+1)]) ?_ rfl ⟨rfl,?_⟩
  ·refine gC _ _ (w.heap.size+1) _ lim 1 t1 t2 t3 t4 0 (fr+1) rfl ?_;exact dU (lim0:=0) (mode0:=0) (A0:=0) (B0:=0) (C0:=0) (D0:=0) (coast0:=0) (fr0:=0) (u:=.slice none 0 0) ⟨(yx R3).cell 0 _ rfl,(yx R3).cell 1 _ rfl,(yx R3).cell 2 _ rfl,(yx R3).cell 3 _ rfl,(yx R3).cell 4 _ rfl,(yx R3).cell 5 _ rfl,(yx R3).cell 6 _ rfl,(yx R3).cell 7 _ rfl,(yx R3).cell 8 _ rfl⟩ _ lim 1 t1 t2 t3 t4 0 (fr+1)
  ·iterate 9 (refine aB ?_ (show w.heap.size≤w.heap.size+1 by omega) _ _)
   exact yx B3
 ·have HO:=yz (yx hO3 hneg h3);clear hO1 hO2 hO3;go_wp2_with fail;clear q0 s0;refine(yx cU _).mono ?_;rintro e w3 ⟨rfl,hx⟩;have B3:=aA B2 hx;have R3:=an R2 hx;clear hx;have r0:=dO (yx R3);have g0:=kO (yx R3);go_wp2_with fail;clear r0 g0;rw[yx HO];refine bodyPost_ret (v:=.agg #[.slice ar L.length cr,J Y u1,J Y u2,J Y u3,J Y u4,J Y u5,J Y u6,J Y u7,J Y u8]) ?_ rfl ⟨rfl,?_⟩
  ·refine gC _ _ (w.heap.size+1) _ u1 u2 u3 u4 u5 u6 u7 u8 rfl ?_;exact dU (lim0:=0) (mode0:=0) (A0:=0) (B0:=0) (C0:=0) (D0:=0) (coast0:=0) (fr0:=0) (u:=.slice none 0 0) ⟨(yx R3).cell 0 _ rfl,(yx R3).cell 1 _ rfl,(yx R3).cell 2 _ rfl,(yx R3).cell 3 _ rfl,(yx R3).cell 4 _ rfl,(yx R3).cell 5 _ rfl,(yx R3).cell 6 _ rfl,(yx R3).cell 7 _ rfl,(yx R3).cell 8 _ rfl⟩ _ u1 u2 u3 u4 u5 u6 u7 u8
  ·iterate 9 (refine aB ?_ (show w.heap.size≤w.heap.size+1 by omega) _ _)
   exact yx B3
end
section
open Go.Value renaming int → J
open Go.IntKind renaming i64 → Z
open Go.RowKit Go.Sort
def fF(t:Tk)(S:List D3):Tk:=if 400<S.length then eh else if (aZ t&&aL S)=true then (if t.fr=1000000 then eh else eG t S) else eh
def gp(t:Tk)(S:List D3):Int:=if 400<S.length then 2 else if (aZ t&&aL S)=true then (if t.fr=1000000 then 9 else 0) else 1
variable {b:Nat} {t:TypeId} {w:World}
theorem yt{t:Tk}{S:List D3}(h:400<S.length):fF t S=eh∧gp t S=2:=by unfold fF gp;rw[if_pos h,if_pos h];exact⟨rfl,rfl⟩
theorem nH{t:Tk}{S:List D3}(h:¬400<S.length)(h1:(aZ t&&aL S)=false):fF t S=eh∧gp t S=1:=by unfold fF gp;rw[if_neg h,if_neg h,h1];exact⟨rfl,rfl⟩
theorem uT{t:Tk}{S:List D3}(h:¬400<S.length)(h1:aZ t=true)(h2:aL S=true)(h3:t.fr=1000000):fF t S=eh∧gp t S=9:=by unfold fF gp;rw[if_neg h,if_neg h,h1,h2,if_pos h3,if_pos h3];exact⟨rfl,rfl⟩
theorem yu{t:Tk}{S:List D3}(h:¬400<S.length)(h1:aZ t=true)(h2:aL S=true)(h3:t.fr≠1000000):fF t S=eG t S∧gp t S=0:=by unfold fF gp;rw[if_neg h,if_neg h,h1,h2,if_neg h3,if_neg h3];exact⟨rfl,rfl⟩
theorem GE(t:Tk):(bz t).L=t.L:=by
 unfold bz;split
 ·rfl
 ·split<;>rfl
theorem wA(t:Tk)(S:List D3):(eG t S).L=t.L:=by
 unfold eG;split
 ·rfl
 ·split
  ·rfl
  ·rw[GE]
theorem pO{t:Tk}(h:aZ t=true):bk t.L=true∧(t.mode=0∨t.mode=1∨t.mode=2)∧(t.mode≠0→aE t.A t.B t.C t.D=true)∧(0≤t.coast∧t.coast≤5)∧(0≤t.fr∧t.fr≤1000000):=by
 unfold aZ rJ at h;simp only[Bool.and_eq_true]at h;obtain⟨⟨⟨hs,hl⟩,hf⟩,hm⟩:=h;rw[jW]at hl hf;unfold jM at hm;split at hm
 ·rename_i h0
  simp only[Bool.and_eq_true,decide_eq_true_eq]at hm;exact⟨hs,.inl h0,fun h=>absurd h0 h,by omega,hf⟩
 ·split at hm
  ·rename_i h0
   simp only[Bool.and_eq_true,decide_eq_true_eq]at hm;exact⟨hs,.inr (.inl h0),fun _=>hm.1,by omega,hf⟩
  ·split at hm
   ·rename_i h0
    simp only[Bool.and_eq_true,jW]at hm;exact⟨hs,.inr (.inr h0),fun _=>hm.1,by omega,hf⟩
   ·cases hm
theorem aU{L:List Value}(h:Blk w b L t)(hl:L.length=10)(v:Value)(lim mode A B C D coast fr code:Int):Blk ((((((((((w.setCell ⟨b,0,none⟩ v).setCell ⟨b,1,none⟩ (J Z lim)).setCell ⟨b,2,none⟩ (J Z mode)).setCell ⟨b,3,none⟩ (J Z A)).setCell ⟨b,4,none⟩ (J Z B)).setCell ⟨b,5,none⟩ (J Z C)).setCell ⟨b,6,none⟩ (J Z D)).setCell ⟨b,7,none⟩ (J Z coast)).setCell ⟨b,8,none⟩ (J Z fr)).setCell ⟨b,9,none⟩ (J Z code)) b [v,J Z lim,J Z mode,J Z A,J Z B,J Z C,J Z D,J Z coast,J Z fr,J Z code] t:=by
 match L,hl with
 | [x0,x1,x2,x3,x4,x5,x6,x7,x8,x9],_=>exact(((((((((h.set 0 _).set 1 _).set 2 _).set 3 _).set 4 _).set 5 _).set 6 _).set 7 _).set 8 _).set 9 _
theorem bw{v:Value}{lim mode A B C D coast fr code:Int}(h:Blk w b [v,J Z lim,J Z mode,J Z A,J Z B,J Z C,J Z D,J Z coast,J Z fr,J Z code] t):TkO w b v lim mode A B C D coast fr code:=⟨⟨h.cell 0 _ rfl,h.cell 1 _ rfl,h.cell 2 _ rfl,h.cell 3 _ rfl,h.cell 4 _ rfl,h.cell 5 _ rfl,h.cell 6 _ rfl,h.cell 7 _ rfl,h.cell 8 _ rfl⟩,h.cell 9 _ rfl⟩
theorem nD(L:List St)(S:List D3)(lim mode A B C D coast fr:Int)(ad:Option Addr)(c:Nat)(br:Option Addr)(dr:Nat)(p:Addr)(w:World)(hn:L.length≤1048576)(hn2:S.length≤1048576)(hS:aH w ad L L.length)(hD:bi w br S S.length)(hb:∀y,ad=some y→y.block<w.heap.size)(hB:∀y,br=some y→y.block<w.heap.size)(hcap:L.length≤c)(hc9:c≤9223372036854775807)(hcap2:S.length≤dr)(hd9:dr≤9223372036854775807)(hE:bm p w):
  Calls Tryz.prog 71 #[.agg #[.slice ad L.length c,J Z lim,J Z mode,J Z A,J Z B,J Z C,J Z D,J Z coast,J Z fr],.slice br S.length dr] w fun e w'=>jx w' w.heap.size (fF ⟨L,lim,mode,A,B,C,D,coast,fr⟩ S) (gp ⟨L,lim,mode,A,B,C,D,coast,fr⟩ S) e∧Below w.heap.size w w':=by
 have B0:=yz (aF w (.cells #[.slice ad L.length c,J Z lim,J Z mode,J Z A,J Z B,J Z C,J Z D,J Z coast,J Z fr] 37) (.cells #[.slice none 0 0,J Z 0,J Z 0,J Z 0,J Z 0,J Z 0,J Z 0,J Z 0,J Z 0,J Z 0] 39));have A0:=yz ((ap w [.slice ad L.length c,J Z lim,J Z mode,J Z A,J Z B,J Z C,J Z D,J Z coast,J Z fr] 37).alloc (.cells #[.slice none 0 0,J Z 0,J Z 0,J Z 0,J Z 0,J Z 0,J Z 0,J Z 0,J Z 0,J Z 0] 39));have R0:=yz (by simpa using ap (w.alloc (.cells #[.slice ad L.length c,J Z lim,J Z mode,J Z A,J Z B,J Z C,J Z D,J Z coast,J Z fr] 37)) [.slice none 0 0,J Z 0,J Z 0,J Z 0,J Z 0,J Z 0,J Z 0,J Z 0,J Z 0,J Z 0] 39:Blk ((w.alloc (.cells #[.slice ad L.length c,J Z lim,J Z mode,J Z A,J Z B,J Z C,J Z D,J Z coast,J Z fr] 37)).alloc (.cells #[.slice none 0 0,J Z 0,J Z 0,J Z 0,J Z 0,J Z 0,J Z 0,J Z 0,J Z 0,J Z 0] 39)) (w.heap.size+1) [.slice none 0 0,J Z 0,J Z 0,J Z 0,J Z 0,J Z 0,J Z 0,J Z 0,J Z 0,J Z 0] 39);have S0:=yz (hS.kept (yx B0));have D0:=yz (hD.kept (yx B0));have E0:=yz (hE.kept (yx B0));have hl0:=(yx B0).size;have hB0:∀y,br=some y→y.block<(w.alloc (.cells #[.slice ad L.length c,J Z lim,J Z mode,J Z A,J Z B,J Z C,J Z D,J Z coast,J Z fr] 37)).heap.size+1:=fun y e=>by have:=hB y e;simp;omega
 clear hS hD hE hB0;by_cases hbig:400<S.length
 ·have HO:=yz (yt (t:=⟨L,lim,mode,A,B,C,D,coast,fr⟩) hbig);have hb':(400:Int)<(S.length:Int):=by omega
  clear hbig;go_enter Tryz.func71,Tryz.ntmps71;go_wp2;refine bodyPost_ret (v:=.agg #[.slice none 0 0,J Z 0,J Z 0,J Z 0,J Z 0,J Z 0,J Z 0,J Z 0,J Z 0,J Z 2]) (by simp[results,Tryz.results71,go_sem]) rfl ⟨?_,aF _ _ _⟩;rw[(yx HO).1,(yx HO).2];exact dL _ _ _
 have hb':¬(400:Int)<(S.length:Int):=by omega
 have cR:=yz (fP L lim mode A B C D coast fr ad c p _ hn hcap hc9 (yx S0) (yx E0));go_enter Tryz.func71,Tryz.ntmps71;go_wp2_with fail;refine(yx cR).mono ?_;rintro e w1 ⟨rfl,hx⟩;have A1:=an A0 hx;have R1:=an R0 hx;have S1:=an S0 hx;have D1:=an D0 hx;have E1:=an E0 hx;have B1:=aA B0 hx;have hl1:=hx.size;clear hx cR A0 R0 S0 D0 E0 B0;cases hk:aZ ⟨L,lim,mode,A,B,C,D,coast,fr⟩
 ·have HO:=yz (nH (t:=⟨L,lim,mode,A,B,C,D,coast,fr⟩) (S:=S) hbig (by rw[hk];rfl));clear hk;have r0:=dP (yx R1);have g0:=eB (yx R1);go_wp2_with fail;clear r0 g0;refine bodyPost_ret (v:=.agg #[.slice none 0 0,J Z 0,J Z 0,J Z 0,J Z 0,J Z 0,J Z 0,J Z 0,J Z 0,J Z 1]) ?_ rfl ⟨?_,?_⟩
  ·exact lU _ _ (w.heap.size+1) _ 0 0 0 0 0 0 0 0 1 rfl (bw (aU (yx R1) rfl _ 0 0 0 0 0 0 0 0 1))
  ·rw[(yx HO).1,(yx HO).2];exact dL _ _ _
  ·iterate 10 (refine aB ?_ (show w.heap.size≤w.heap.size+1 by omega) _ _)
   exact yx B1
 go_wp2_with fail;refine(ft S br dr _ hn2 hcap2 hd9 (yx D1)).mono ?_;rintro e w2 ⟨rfl,hx⟩;have A2:=an A1 hx;have R2:=an R1 hx;have S2:=an S1 hx;have D2:=an D1 hx;have E2:=an E1 hx;have B2:=aA B1 hx;have hl2:=hx.size;clear hx A1 R1 S1 D1 E1 B1;cases hp:aL S
 ·have HO:=yz (nH (t:=⟨L,lim,mode,A,B,C,D,coast,fr⟩) (S:=S) hbig (by rw[hp];simp));clear hk hp;have r0:=dP (yx R2);have g0:=eB (yx R2);go_wp2_with fail;clear r0 g0;refine bodyPost_ret (v:=.agg #[.slice none 0 0,J Z 0,J Z 0,J Z 0,J Z 0,J Z 0,J Z 0,J Z 0,J Z 0,J Z 1]) ?_ rfl ⟨?_,?_⟩
  ·exact lU _ _ (w.heap.size+1) _ 0 0 0 0 0 0 0 0 1 rfl (bw (aU (yx R2) rfl _ 0 0 0 0 0 0 0 0 1))
  ·rw[(yx HO).1,(yx HO).2];exact dL _ _ _
  ·iterate 10 (refine aB ?_ (show w.heap.size≤w.heap.size+1 by omega) _ _)
   exact yx B2
 by_cases hf:fr=1000000
 ·have HO:=yz (uT (t:=⟨L,lim,mode,A,B,C,D,coast,fr⟩) (S:=S) hbig hk hp hf);clear hk hp;have q0:=dO (yx A2);have r0:=dP (yx R2);have g0:=eB (yx R2);go_wp2_with fail;clear r0 g0;refine bodyPost_ret (v:=.agg #[.slice none 0 0,J Z 0,J Z 0,J Z 0,J Z 0,J Z 0,J Z 0,J Z 0,J Z 0,J Z 9]) ?_ rfl ⟨?_,?_⟩
  ·exact lU _ _ (w.heap.size+1) _ 0 0 0 0 0 0 0 0 9 rfl (bw (aU (yx R2) rfl _ 0 0 0 0 0 0 0 0 9))
  ·rw[(yx HO).1,(yx HO).2];exact dL _ _ _
  ·iterate 10 (refine aB ?_ (show w.heap.size≤w.heap.size+1 by omega) _ _)
   exact yx B2
 have HO:=yz (yu (t:=⟨L,lim,mode,A,B,C,D,coast,fr⟩) (S:=S) hbig hk hp hf);have HL:=yz (wA ⟨L,lim,mode,A,B,C,D,coast,fr⟩ S);obtain⟨hsk,hmd,_,hco,hfr⟩:=pO hk;dsimp only at hsk hmd hco hfr;have cW:=yz (fun W h=>kG L lim mode A B C D coast fr ad c W hn h);have cA:=yz (fun (W:World) (a:Option Addr) (cap:Nat) h1 h2 h3 h4 h5 h6 h7=>wB L S lim mode A B C D coast fr a br cap dr p W hn h1 h2 hn2 hcap2 hd9 h3 h4 h5 h6 h7 hmd hco.1 hco.2 hfr.1 hfr.2);obtain⟨lr,hlr⟩:∃z,eG ⟨L,lim,mode,A,B,C,D,coast,fr⟩ S=z:=⟨_,rfl⟩
 rw[hlr]at HO HL cA;obtain⟨L2,lim2,mode2,A2',B2',C2,D2',coast2,fr2⟩:=lr;unfold tkV at cA;dsimp only at cA HL;clear hk hp hlr hsk hmd hco hfr;have q0:=dO (yx A2);go_wp2_with fail;clear q0;refine(yx cW _ (yx S2)).mono ?_;rintro e w3 ⟨a,cap,rfl,hC,hx⟩;have C3:=yz (hC.low (B':=w.heap.size+1+1) (by omega));have hcm:=hC.capMax;have hab:∀y,a=some y→y.block<w3.heap.size:=fun y e=>(hC.block y e).2;have R3:=an R2 hx;have D3:=an D2 hx;have E3:=an E2 hx;have B3:=aA B2 hx;have hl3:=hx.size;clear hx hC A2 R2 S2 D2 E2 B2 cW;have hm8:maxLen≤9223372036854775807:=by decide +kernel
 go_wp2_with fail;refine(yx cA _ a cap hcm.1 (Nat.le_trans hcm.2 hm8) (yx C3).stars (yx D3) hab (fun y e=>by have:=hB y e;omega) (yx E3)).mono ?_;rintro e w4 ⟨rfl,hx⟩;have C4:=an C3 hx;have R4:=an R3 hx;have B4:=aA B3 hx;clear hx C3 R3 B3 D3 E3 cA;go_wp2_with fail;refine(oh lim2 mode2 A2' B2' C2 D2' coast2 fr2 a L.length cap _).mono ?_;rintro e w5 ⟨rfl,hx⟩;have C5:=an C4 hx;have R5:=an R4 hx;have B5:=aA B4 hx;clear hx C4 R4 B4;have r0:=dP (yx R5);have g0:=eB (yx R5);go_wp2_with fail;clear r0 g0;have hL2:L2=L:=yx HL;refine bodyPost_ret (v:=.agg #[.slice a L.length cap,J Z lim2,J Z mode2,J Z A2',J Z B2',J Z C2,J Z D2',J Z coast2,J Z fr2,J Z 0]) ?_ rfl ⟨?_,?_⟩
 ·exact lU _ _ (w.heap.size+1) _ lim2 mode2 A2' B2' C2 D2' coast2 fr2 0 rfl (bw (aU (yx R5) rfl _ lim2 mode2 A2' B2' C2 D2' coast2 fr2 0))
 ·rw[(yx HO).1,(yx HO).2];subst hL2;refine⟨a,cap,rfl,?_⟩;refine ay.low (B:=w.heap.size+1+1) ?_ (by omega);iterate 10 (refine ay.far ?_ (Nat.lt_succ_self (w.heap.size+1)) _ _)
  exact yx C5
 ·iterate 10 (refine aB ?_ (show w.heap.size≤w.heap.size+1 by omega) _ _)
  exact yx B5
end
section
open Go.Value renaming int → J
open Go.IntKind renaming i64 → Y
open Go.RowKit Go.Sort
theorem eN(T:Array Value)(X:World)(b:Nat)(v:Value)(lim mode A B C D coast fr code:Int)(hT:T.getD 4 undef=.pointer (some ⟨b,0,none⟩))(h:TkO X b v lim mode A B C D coast fr code):(results Tryz.f108 T).run Tryz.prog X=.ok (.agg #[v,J Y lim,J Y mode,J Y A,J Y B,J Y C,J Y D,J Y coast,J Y fr,J Y code]) X:=by
 obtain⟨⟨h0,h1,h2,h3,h4,h5,h6,h7,h8⟩,h9⟩:=h;simp only[Array.getD_eq_getD_getElem?]at hT;simp[results,Tryz.results108,go_sem,hT,h0,h1,h2,h3,h4,h5,h6,h7,h8,h9]
theorem jU(T:Array Value)(X:World)(b:Nat)(v:Value)(lim mode A B C D coast fr code:Int)(hT:T.getD 4 undef=.pointer (some ⟨b,0,none⟩))(h:TkO X b v lim mode A B C D coast fr code):(results Tryz.f64 T).run Tryz.prog X=.ok (.agg #[v,J Y lim,J Y mode,J Y A,J Y B,J Y C,J Y D,J Y coast,J Y fr,J Y code]) X:=by
 obtain⟨⟨h0,h1,h2,h3,h4,h5,h6,h7,h8⟩,h9⟩:=h;simp only[Array.getD_eq_getD_getElem?]at hT;simp[results,Tryz.results64,go_sem,hT,h0,h1,h2,h3,h4,h5,h6,h7,h8,h9]
theorem AZ{L:List St}{S:List D3}(hk:bk L=true)(hp:aL S=true)(h0:bU L S=0):bH L S=kl L S (cx L S):=by
 have h12:=(eu hk).1;have h6:=(bK hp).1;obtain⟨e1,e2,e3⟩:=lR (L:=L) (S:=S) (by omega) (by unfold qf;rw[hk,hp];rfl);unfold bH;rw[e3,if_pos h0,e1]
theorem Ej{L:List St}{S:List D3}(hk:bk L=true)(hp:aL S=true)(h0:bU L S≠0):(bH L S).2≠0:=by
 have h12:=(eu hk).1;have h6:=(bK hp).1;obtain⟨e1,e2,e3⟩:=lR (L:=L) (S:=S) (by omega) (by unfold qf;rw[hk,hp];rfl);unfold bH;rw[e3,if_neg h0];exact h0
theorem yo(L:List St)(S:List D3)(lim mode A B C D coast fr:Int)(ad:Option Addr)(c:Nat)(br:Option Addr)(dr:Nat)(w:World)(hn:L.length≤1048576)(hdr:S.length≤dr)(hd9:dr≤9223372036854775807)(hS:aH w ad L L.length)(hD:bi w br S S.length)(hb:∀y,ad=some y→y.block<w.heap.size)(hB:∀y,br=some y→y.block<w.heap.size)(hsk:bk L=true)(hsp:aL S=true)(hm:mode=0∨mode=1∨mode=2)(hr:mode≠0→aE A B C D=true)(hc0:0≤coast)(hc5:coast≤5)(hf0:0≤fr)(hf1:fr≤1000000):
  Calls Tryz.prog 108 #[.agg #[.slice ad L.length c,J Y lim,J Y mode,J Y A,J Y B,J Y C,J Y D,J Y coast,J Y fr],.slice br S.length dr] w fun e w'=>jx w' w.heap.size (eG ⟨L,lim,mode,A,B,C,D,coast,fr⟩ S) 0 e∧Below w.heap.size w w':=by
 have hwr:wrap64 (fr+1)=fr+1:=aq (by omega) (by omega);have hwc:wrap64 (coast+1)=coast+1:=aq (by omega) (by omega);have B0:=yz (aF w (.cells #[.slice ad L.length c,J Y lim,J Y mode,J Y A,J Y B,J Y C,J Y D,J Y coast,J Y fr] 37) (.cells #[.slice none 0 0,J Y 0,J Y 0,J Y 0,J Y 0,J Y 0,J Y 0,J Y 0,J Y 0,J Y 0] 39));have A0:=yz ((ap w [.slice ad L.length c,J Y lim,J Y mode,J Y A,J Y B,J Y C,J Y D,J Y coast,J Y fr] 37).alloc (.cells #[.slice none 0 0,J Y 0,J Y 0,J Y 0,J Y 0,J Y 0,J Y 0,J Y 0,J Y 0,J Y 0] 39));have R0:=yz (by simpa using ap (w.alloc (.cells #[.slice ad L.length c,J Y lim,J Y mode,J Y A,J Y B,J Y C,J Y D,J Y coast,J Y fr] 37)) [.slice none 0 0,J Y 0,J Y 0,J Y 0,J Y 0,J Y 0,J Y 0,J Y 0,J Y 0,J Y 0] 39:Blk ((w.alloc (.cells #[.slice ad L.length c,J Y lim,J Y mode,J Y A,J Y B,J Y C,J Y D,J Y coast,J Y fr] 37)).alloc (.cells #[.slice none 0 0,J Y 0,J Y 0,J Y 0,J Y 0,J Y 0,J Y 0,J Y 0,J Y 0,J Y 0] 39)) (w.heap.size+1) [.slice none 0 0,J Y 0,J Y 0,J Y 0,J Y 0,J Y 0,J Y 0,J Y 0,J Y 0,J Y 0] 39);have hl0:w.heap.size+1+1≤((w.alloc (.cells #[.slice ad L.length c,J Y lim,J Y mode,J Y A,J Y B,J Y C,J Y D,J Y coast,J Y fr] 37)).alloc (.cells #[.slice none 0 0,J Y 0,J Y 0,J Y 0,J Y 0,J Y 0,J Y 0,J Y 0,J Y 0,J Y 0] 39)).heap.size:=by simp
 have cC:=yz (jk L lim mode A B C D coast fr ad c _ hn (hS.kept (yx B0)))
 have cM:Hid (mode≠0→∀W:World,Below w.heap.size w W→Calls Tryz.prog 141 #[.slice ad L.length c,.agg #[J Y A,J Y B,J Y C,J Y D],.slice br S.length dr] W fun e w'=>(∃v,e=.returned (.tuple #[v,J Y (aQ (bV L A B C D S):Int)]))∧Below W.heap.size W w'):=yz (fun h0 W h=>(wu L S _ br c dr A B C D W hsk (hr h0) hsp (hS.kept h) (hD.kept h)).mono fun e w' hh=>by
  obtain⟨⟨v,he,_⟩,hx⟩:=hh;rw[EV hsk (hr h0) hsp]at he
  exact⟨⟨v,he⟩,hx⟩)
 have cI:=yz (fun (W:World) (h:Below w.heap.size w W)=>qn L S ad br c dr W hsk hsp hdr hd9 (hS.kept h) (hD.kept h) (fun y e=>Nat.lt_of_lt_of_le (hb y e) h.size) (fun y e=>Nat.lt_of_lt_of_le (hB y e) h.size));obtain⟨⟨⟨t1,t2,t3,t4⟩,tc⟩,htv⟩:∃z,bH L S=z:=⟨_,rfl⟩
 have cF:Hid (bU L S=0→∀(W:World) (x:Option Addr) (k:Nat),Below w.heap.size w W→ij W x (cx L S) (cx L S).length→Calls Tryz.prog 144 #[.slice ad L.length c,.slice br S.length dr,.slice x (cx L S).length k] W fun e w'=>e=.returned (.agg #[J Y t1,J Y t2,J Y t3,J Y t4,J Y tc])∧Below W.heap.size W w'):=yz (fun h0 W x k h hN=>by
  have h1:=Ag L S (cx L S) _ br x c dr k W (pD hsk hsp h0) (hS.kept h) (hD.kept h) hN;rw[CP hsk hsp h0,←AZ hsk hsp h0,htv]at h1
  exact h1)
 have hTN:Hid (bU L S≠0→tc≠0):=yz (fun h0=>by have:=Ej hsk hsp h0;rw[htv]at this;exact this);have hO1:Hid (mode≠0→2≤aQ (bV L A B C D S)→eG ⟨L,lim,mode,A,B,C,D,coast,fr⟩ S=⟨L,lim,1,A,B,C,D,0,fr+1⟩):=yz (fun h1 h2=>by unfold eG;rw[if_pos ⟨h1,h2⟩];rfl);have hO2:Hid (¬(mode≠0∧2≤aQ (bV L A B C D S))→tc=0→eG ⟨L,lim,mode,A,B,C,D,coast,fr⟩ S=⟨L,lim,1,t1,t2,t3,t4,0,fr+1⟩):=yz (fun h1 h2=>by unfold eG;dsimp only;rw[if_neg h1,htv,if_pos h2];rfl);have hO3:Hid (¬(mode≠0∧2≤aQ (bV L A B C D S))→tc≠0→eG ⟨L,lim,mode,A,B,C,D,coast,fr⟩ S=bz ⟨L,lim,mode,A,B,C,D,coast,fr+1⟩):=yz (fun h1 h2=>by unfold eG;dsimp only;rw[if_neg h1,htv,if_neg h2]);have hid:=rL L S;generalize aQ (bV L A B C D S)=cn at *;clear hS htv hsk hsp hr hf0 hf1 hid;have hm0:=hm;clear hm;go_enter Tryz.func108,Tryz.ntmps108;go_wp2_with fail;refine(yx cC).mono ?_;rintro e w2 ⟨a,cap,rfl,hC,hx⟩;have Z:=ak w2 (.cells #[.slice a L.length cap,J Y lim,J Y mode,J Y A,J Y B,J Y C,J Y D,J Y coast,J Y (fr+1)] 37);have C2:=yz ((hC.low (B':=w.heap.size+1+1) (by omega)).kept Z);have hcb:∀y,a=some y→y.block<w2.heap.size:=fun y e=>(hC.block y e).2;have p8:=(((yx A0).kept hx).kept (ak w2 (.cells #[.slice a L.length cap,J Y lim,J Y mode,J Y A,J Y B,J Y C,J Y D,J Y coast,J Y fr] 37))).cell 8 _ rfl;have A2:=aI A0 hx Z;have R2:=aI R0 hx Z;have B2:=aA (aA B0 hx) Z;have T2:=yz (ap w2 [.slice a L.length cap,J Y lim,J Y mode,J Y A,J Y B,J Y C,J Y D,J Y coast,J Y (fr+1)] 37);have hl2:w.heap.size+1+1≤w2.heap.size:=Nat.le_trans hl0 hx.size;have hD2:=yz (hD.kept (yx B2));clear hx hC Z A0 R0 B0 cC hl0 hD;have q0:=dO (yx A2);have s0:=dO (yx T2);have f0:=kO (yx T2);by_cases h1:mode=0
 ·have hneg:¬(mode≠0∧2≤cn):=fun h=>h.1 h1;subst h1;go_wp2_with fail;clear q0 s0 f0 p8;refine(yx cI _ (yx B2)).mono ?_;rintro e w4 ⟨hO,hx⟩;obtain⟨x,k,rfl,hv⟩:=uY hO;have Z:=ak w4 (.cells #[.slice x (cx L S).length k,J Y (fi L S),J Y (bU L S)] 196);have A4:=aI A2 hx Z;have R4:=aI R2 hx Z;have C4:=aI C2 hx Z;have T4:=aI T2 hx Z;have B4:=aA (aA B2 hx) Z;have I4:=yz (ap w4 [.slice x (cx L S).length k,J Y (fi L S),J Y (bU L S)] 196);have N4:=yz (hv.kept Z);clear hx hO hv Z;have cF4:Hid (bU L S=0→Calls Tryz.prog 144 #[.slice ad L.length c,.slice br S.length dr,.slice x (cx L S).length k] (w4.alloc (.cells #[.slice x (cx L S).length k,J Y (fi L S),J Y (bU L S)] 196)) fun e w'=>e=.returned (.agg #[J Y t1,J Y t2,J Y t3,J Y t4,J Y tc])∧Below (w4.alloc (.cells #[.slice x (cx L S).length k,J Y (fi L S),J Y (bU L S)] 196)).heap.size (w4.alloc (.cells #[.slice x (cx L S).length k,J Y (fi L S),J Y (bU L S)] 196)) w'):=yz (fun h0=>yx cF h0 _ x k (yx B4) (yx N4));clear N4;generalize (cx L S).length=nI at *;generalize bU L S=kd at *;generalize fi L S=kc at *;obtain⟨j0,j1,j2⟩:=eP (yx I4);have q0:=dO (yx A4);have s0:=dO (yx T4);have f0:=kO (yx T4);by_cases h3:kd=0
  ·have cF5:=yz (yx cF4 h3);clear cF4;subst h3;go_wp2_with fail;clear j0 j1 j2 q0 s0 f0;refine(yx cF5).mono ?_;rintro e w5 ⟨rfl,hx⟩;have Z:=ak w5 (.cells #[J Y t1,J Y t2,J Y t3,J Y t4,J Y tc] 156);have A5:=aI A4 hx Z;have R5:=aI R4 hx Z;have C5:=aI C4 hx Z;have T5:=aI T4 hx Z;have B5:=aA (aA B4 hx) Z;have U5:=yz (ap w5 [J Y t1,J Y t2,J Y t3,J Y t4,J Y tc] 156);clear hx Z cF5 A4 R4 C4 T4 B4 I4;obtain⟨j0,j1,j2,j3,j4⟩:=gL (yx U5);have q0:=dO (yx A5);have s0:=dO (yx T5);have f0:=kO (yx T5);by_cases h4:tc=0
   ·have HO:=yz (yx hO2 hneg h4);subst h4;go_wp2_with fail;clear j0 j1 j2 j3 j4 q0 s0 f0;refine(kw lim _ A B C D coast (fr+1) t1 t2 t3 t4 a L.length cap _).mono ?_;rintro e w6 ⟨rfl,hx⟩;have R6:=an R5 hx;have C6:=an C5 hx;have B6:=aA B5 hx;clear hx;have r0:=dP (yx R6);have g0:=eB (yx R6);go_wp2_with fail;clear r0 g0;rw[yx HO];refine bodyPost_ret (v:=.agg #[.slice a L.length cap,J Y lim,J Y 1,J Y t1,J Y t2,J Y t3,J Y t4,J Y 0,J Y (fr+1),J Y 0]) ?_ rfl ⟨⟨a,cap,rfl,?_⟩,?_⟩
    ·refine eN _ _ (w.heap.size+1) _ lim 1 t1 t2 t3 t4 0 (fr+1) 0 rfl (bw (t:=39) (aU (L:=[.slice none 0 0,J Y 0,J Y 0,J Y 0,J Y 0,J Y 0,J Y 0,J Y 0,J Y 0,J Y 0]) (t:=39) ?_ rfl _ lim 1 t1 t2 t3 t4 0 (fr+1) 0));exact yx R6
    ·refine ay.low (B:=w.heap.size+1+1) ?_ (by omega);iterate 10 (refine ay.far ?_ (Nat.lt_succ_self (w.heap.size+1)) _ _)
     exact yx C6
    ·iterate 10 (refine aB ?_ (show w.heap.size≤w.heap.size+1 by omega) _ _)
     exact yx B6
   ·skip;have r0:=dP (yx R5);have g0:=eB (yx R5);have HO:Hid (eG ⟨L,lim,0,A,B,C,D,coast,fr⟩ S=⟨L,lim,0,A,B,C,D,coast,fr+1⟩):=yz (by rw[yx hO3 hneg h4];rfl);go_wp2_with fail;clear q0 s0 f0 r0 g0 j0 j1 j2 j3 j4;rw[yx HO];refine bodyPost_ret (v:=.agg #[.slice a L.length cap,J Y lim,J Y 0,J Y A,J Y B,J Y C,J Y D,J Y coast,J Y (fr+1),J Y 0]) ?_ rfl ⟨⟨a,cap,rfl,?_⟩,?_⟩
    ·refine eN _ _ (w.heap.size+1) _ lim 0 A B C D coast (fr+1) 0 rfl (bw (t:=39) (aU (L:=[.slice none 0 0,J Y 0,J Y 0,J Y 0,J Y 0,J Y 0,J Y 0,J Y 0,J Y 0,J Y 0]) (t:=39) ?_ rfl _ lim 0 A B C D coast (fr+1) 0));exact yx R5
    ·refine ay.low (B:=w.heap.size+1+1) ?_ (by omega);iterate 10 (refine ay.far ?_ (Nat.lt_succ_self (w.heap.size+1)) _ _)
     exact yx C5
    ·iterate 10 (refine aB ?_ (show w.heap.size≤w.heap.size+1 by omega) _ _)
     exact yx B5
  ·have htc:=yx hTN h3;clear cF4;have r0:=dP (yx R4);have g0:=eB (yx R4);have HO:Hid (eG ⟨L,lim,0,A,B,C,D,coast,fr⟩ S=⟨L,lim,0,A,B,C,D,coast,fr+1⟩):=yz (by rw[yx hO3 hneg htc];rfl);go_wp2_with fail;clear q0 s0 f0 r0 g0 j0 j1 j2;rw[yx HO];refine bodyPost_ret (v:=.agg #[.slice a L.length cap,J Y lim,J Y 0,J Y A,J Y B,J Y C,J Y D,J Y coast,J Y (fr+1),J Y 0]) ?_ rfl ⟨⟨a,cap,rfl,?_⟩,?_⟩
   ·refine eN _ _ (w.heap.size+1) _ lim 0 A B C D coast (fr+1) 0 rfl (bw (t:=39) (aU (L:=[.slice none 0 0,J Y 0,J Y 0,J Y 0,J Y 0,J Y 0,J Y 0,J Y 0,J Y 0,J Y 0]) (t:=39) ?_ rfl _ lim 0 A B C D coast (fr+1) 0));exact yx R4
   ·refine ay.low (B:=w.heap.size+1+1) ?_ (by omega);iterate 10 (refine ay.far ?_ (Nat.lt_succ_self (w.heap.size+1)) _ _)
    exact yx C4
   ·iterate 10 (refine aB ?_ (show w.heap.size≤w.heap.size+1 by omega) _ _)
    exact yx B4
 have cM2:=yz (yx cM h1 _ (yx B2));clear cM;go_wp2_with fail;clear q0 s0 f0 p8;refine(yx cM2).mono ?_;rintro e w3 ⟨⟨mv,rfl⟩,hx⟩;have A3:=an A2 hx;have R3:=an R2 hx;have C3:=an C2 hx;have T3:=an T2 hx;have B3:=aA B2 hx;clear hx cM2 A2 R2 C2 T2 B2;have q0:=dO (yx A3);have s0:=dO (yx T3);have f0:=kO (yx T3);by_cases h2:2≤cn
 ·have HO:=yz (yx hO1 h1 h2);have h2':(2:Int)≤(cn:Int):=by omega
  go_wp2_with fail;clear q0 s0 f0;refine(kw lim _ A B C D coast (fr+1) A B C D a L.length cap _).mono ?_;rintro e w4 ⟨rfl,hx⟩;have R4:=an R3 hx;have C4:=an C3 hx;have B4:=aA B3 hx;clear hx;have r0:=dP (yx R4);have g0:=eB (yx R4);go_wp2_with fail;clear r0 g0;rw[yx HO];refine bodyPost_ret (v:=.agg #[.slice a L.length cap,J Y lim,J Y 1,J Y A,J Y B,J Y C,J Y D,J Y 0,J Y (fr+1),J Y 0]) ?_ rfl ⟨⟨a,cap,rfl,?_⟩,?_⟩
  ·refine eN _ _ (w.heap.size+1) _ lim 1 A B C D 0 (fr+1) 0 rfl (bw (t:=39) (aU (L:=[.slice none 0 0,J Y 0,J Y 0,J Y 0,J Y 0,J Y 0,J Y 0,J Y 0,J Y 0,J Y 0]) (t:=39) ?_ rfl _ lim 1 A B C D 0 (fr+1) 0));exact yx R4
  ·refine ay.low (B:=w.heap.size+1+1) ?_ (by omega);iterate 10 (refine ay.far ?_ (Nat.lt_succ_self (w.heap.size+1)) _ _)
   exact yx C4
  ·iterate 10 (refine aB ?_ (show w.heap.size≤w.heap.size+1 by omega) _ _)
   exact yx B4
 have hneg:¬(mode≠0∧2≤cn):=fun h=>h2 h.2;have h2':¬(2:Int)≤(cn:Int):=by omega
 go_wp2_with fail;clear q0 s0 f0;refine(yx cI _ (yx B3)).mono ?_;rintro e w4 ⟨hO,hx⟩;obtain⟨x,k,rfl,hv⟩:=uY hO;have Z:=ak w4 (.cells #[.slice x (cx L S).length k,J Y (fi L S),J Y (bU L S)] 196);have A4:=aI A3 hx Z;have R4:=aI R3 hx Z;have C4:=aI C3 hx Z;have T4:=aI T3 hx Z;have B4:=aA (aA B3 hx) Z;have I4:=yz (ap w4 [.slice x (cx L S).length k,J Y (fi L S),J Y (bU L S)] 196);have N4:=yz (hv.kept Z);clear hx hO hv Z;have cF4:Hid (bU L S=0→Calls Tryz.prog 144 #[.slice ad L.length c,.slice br S.length dr,.slice x (cx L S).length k] (w4.alloc (.cells #[.slice x (cx L S).length k,J Y (fi L S),J Y (bU L S)] 196)) fun e w'=>e=.returned (.agg #[J Y t1,J Y t2,J Y t3,J Y t4,J Y tc])∧Below (w4.alloc (.cells #[.slice x (cx L S).length k,J Y (fi L S),J Y (bU L S)] 196)).heap.size (w4.alloc (.cells #[.slice x (cx L S).length k,J Y (fi L S),J Y (bU L S)] 196)) w'):=yz (fun h0=>yx cF h0 _ x k (yx B4) (yx N4));clear N4;generalize (cx L S).length=nI at *;generalize bU L S=kd at *;generalize fi L S=kc at *;obtain⟨j0,j1,j2⟩:=eP (yx I4);have q0:=dO (yx A4);have s0:=dO (yx T4);have f0:=kO (yx T4);by_cases h3:kd=0
 ·have cF5:=yz (yx cF4 h3);clear cF4;subst h3;go_wp2_with fail;clear j0 j1 j2 q0 s0 f0;refine(yx cF5).mono ?_;rintro e w5 ⟨rfl,hx⟩;have Z:=ak w5 (.cells #[J Y t1,J Y t2,J Y t3,J Y t4,J Y tc] 156);have A5:=aI A4 hx Z;have R5:=aI R4 hx Z;have C5:=aI C4 hx Z;have T5:=aI T4 hx Z;have B5:=aA (aA B4 hx) Z;have U5:=yz (ap w5 [J Y t1,J Y t2,J Y t3,J Y t4,J Y tc] 156);clear hx Z cF5 A4 R4 C4 T4 B4 I4;obtain⟨j0,j1,j2,j3,j4⟩:=gL (yx U5);have q0:=dO (yx A5);have s0:=dO (yx T5);have f0:=kO (yx T5);by_cases h4:tc=0
  ·have HO:=yz (yx hO2 hneg h4);subst h4;go_wp2_with fail;clear j0 j1 j2 j3 j4 q0 s0 f0;refine(kw lim _ A B C D coast (fr+1) t1 t2 t3 t4 a L.length cap _).mono ?_;rintro e w6 ⟨rfl,hx⟩;have R6:=an R5 hx;have C6:=an C5 hx;have B6:=aA B5 hx;clear hx;have r0:=dP (yx R6);have g0:=eB (yx R6);go_wp2_with fail;clear r0 g0;rw[yx HO];refine bodyPost_ret (v:=.agg #[.slice a L.length cap,J Y lim,J Y 1,J Y t1,J Y t2,J Y t3,J Y t4,J Y 0,J Y (fr+1),J Y 0]) ?_ rfl ⟨⟨a,cap,rfl,?_⟩,?_⟩
   ·refine eN _ _ (w.heap.size+1) _ lim 1 t1 t2 t3 t4 0 (fr+1) 0 rfl (bw (t:=39) (aU (L:=[.slice none 0 0,J Y 0,J Y 0,J Y 0,J Y 0,J Y 0,J Y 0,J Y 0,J Y 0,J Y 0]) (t:=39) ?_ rfl _ lim 1 t1 t2 t3 t4 0 (fr+1) 0));exact yx R6
   ·refine ay.low (B:=w.heap.size+1+1) ?_ (by omega);iterate 10 (refine ay.far ?_ (Nat.lt_succ_self (w.heap.size+1)) _ _)
    exact yx C6
   ·iterate 10 (refine aB ?_ (show w.heap.size≤w.heap.size+1 by omega) _ _)
    exact yx B6
  ·skip;have r0:=dP (yx R5);have g0:=eB (yx R5);by_cases hlc:lim<coast+1
   ·have HO:Hid (eG ⟨L,lim,mode,A,B,C,D,coast,fr⟩ S=⟨L,lim,0,0,0,0,0,0,fr+1⟩):=yz (by rw[yx hO3 hneg h4];unfold bz;dsimp only;rw[if_neg h1,if_pos hlc];rfl);go_wp2_with fail;clear q0 s0 f0 r0 g0 j0 j1 j2 j3 j4;refine(jl lim 2 A B C D (coast+1) (fr+1) a L.length cap _).mono ?_;rintro e w6 ⟨rfl,hx⟩;have R6:=yz ((((yx R5).other ⟨w2.heap.size,2,none⟩ (J Y 2) (show w.heap.size+1≠w2.heap.size by omega)).other ⟨w2.heap.size,7,none⟩ (J Y (coast+1)) (show w.heap.size+1≠w2.heap.size by omega)).kept hx);have T6:=yz ((((yx T5).set 2 (J Y 2)).set 7 (J Y (coast+1))).kept hx);have C6:=yz ((((yx C5).off (fun y e=>Nat.ne_of_lt (hcb y e)) 2 (J Y 2)).off (fun y e=>Nat.ne_of_lt (hcb y e)) 7 (J Y (coast+1))).kept hx);have B6:=yz (aj (aB (aB (yx B5) (show w.heap.size≤w2.heap.size by omega) 2 (J Y 2)) (show w.heap.size≤w2.heap.size by omega) 7 (J Y (coast+1))) hx);clear hx;have s0:=dO (yx T6);have f0:=kO (yx T6);have r0:=dP (yx R6);have g0:=eB (yx R6);go_wp2_with fail;clear s0 f0 r0 g0;rw[yx HO];refine bodyPost_ret (v:=.agg #[.slice a L.length cap,J Y lim,J Y 0,J Y 0,J Y 0,J Y 0,J Y 0,J Y 0,J Y (fr+1),J Y 0]) ?_ rfl ⟨⟨a,cap,rfl,?_⟩,?_⟩
    ·refine eN _ _ (w.heap.size+1) _ lim 0 0 0 0 0 0 (fr+1) 0 rfl (bw (t:=39) (aU (L:=[.slice none 0 0,J Y 0,J Y 0,J Y 0,J Y 0,J Y 0,J Y 0,J Y 0,J Y 0,J Y 0]) (t:=39) ?_ rfl _ lim 0 0 0 0 0 0 (fr+1) 0));iterate 9 (refine Blk.other ?_ _ _ (show w.heap.size+1≠w2.heap.size by omega))
     exact yx R6
    ·refine ay.low (B:=w.heap.size+1+1) ?_ (by omega);iterate 10 (refine ay.far ?_ (Nat.lt_succ_self (w.heap.size+1)) _ _)
     iterate 9 (refine ay.off ?_ (fun y e=>Nat.ne_of_lt (hcb y e)) _ _)
     exact yx C6
    ·iterate 10 (refine aB ?_ (show w.heap.size≤w.heap.size+1 by omega) _ _)
     iterate 9 (refine aB ?_ (show w.heap.size≤w2.heap.size by omega) _ _)
     exact yx B6
   ·have HO:Hid (eG ⟨L,lim,mode,A,B,C,D,coast,fr⟩ S=⟨L,lim,2,A,B,C,D,coast+1,fr+1⟩):=yz (by rw[yx hO3 hneg h4];unfold bz;dsimp only;rw[if_neg h1,if_neg hlc]);go_wp2_with fail;clear q0 s0 f0 r0 g0 j0 j1 j2 j3 j4;rw[yx HO];refine bodyPost_ret (v:=.agg #[.slice a L.length cap,J Y lim,J Y 2,J Y A,J Y B,J Y C,J Y D,J Y (coast+1),J Y (fr+1),J Y 0]) ?_ rfl ⟨⟨a,cap,rfl,?_⟩,?_⟩
    ·refine eN _ _ (w.heap.size+1) _ lim 2 A B C D (coast+1) (fr+1) 0 rfl (bw (t:=39) (aU (L:=[.slice none 0 0,J Y 0,J Y 0,J Y 0,J Y 0,J Y 0,J Y 0,J Y 0,J Y 0,J Y 0]) (t:=39) ?_ rfl _ lim 2 A B C D (coast+1) (fr+1) 0));iterate 2 (refine Blk.other ?_ _ _ (show w.heap.size+1≠w2.heap.size by omega))
     exact yx R5
    ·refine ay.low (B:=w.heap.size+1+1) ?_ (by omega);iterate 10 (refine ay.far ?_ (Nat.lt_succ_self (w.heap.size+1)) _ _)
     iterate 2 (refine ay.off ?_ (fun y e=>Nat.ne_of_lt (hcb y e)) _ _)
     exact yx C5
    ·iterate 10 (refine aB ?_ (show w.heap.size≤w.heap.size+1 by omega) _ _)
     iterate 2 (refine aB ?_ (show w.heap.size≤w2.heap.size by omega) _ _)
     exact yx B5
 ·have htc:=yx hTN h3;clear cF4;have r0:=dP (yx R4);have g0:=eB (yx R4);by_cases hlc:lim<coast+1
  ·have HO:Hid (eG ⟨L,lim,mode,A,B,C,D,coast,fr⟩ S=⟨L,lim,0,0,0,0,0,0,fr+1⟩):=yz (by rw[yx hO3 hneg htc];unfold bz;dsimp only;rw[if_neg h1,if_pos hlc];rfl);go_wp2_with fail;clear q0 s0 f0 r0 g0 j0 j1 j2;refine(jl lim 2 A B C D (coast+1) (fr+1) a L.length cap _).mono ?_;rintro e w6 ⟨rfl,hx⟩;have R6:=yz ((((yx R4).other ⟨w2.heap.size,2,none⟩ (J Y 2) (show w.heap.size+1≠w2.heap.size by omega)).other ⟨w2.heap.size,7,none⟩ (J Y (coast+1)) (show w.heap.size+1≠w2.heap.size by omega)).kept hx);have T6:=yz ((((yx T4).set 2 (J Y 2)).set 7 (J Y (coast+1))).kept hx);have C6:=yz ((((yx C4).off (fun y e=>Nat.ne_of_lt (hcb y e)) 2 (J Y 2)).off (fun y e=>Nat.ne_of_lt (hcb y e)) 7 (J Y (coast+1))).kept hx);have B6:=yz (aj (aB (aB (yx B4) (show w.heap.size≤w2.heap.size by omega) 2 (J Y 2)) (show w.heap.size≤w2.heap.size by omega) 7 (J Y (coast+1))) hx);clear hx;have s0:=dO (yx T6);have f0:=kO (yx T6);have r0:=dP (yx R6);have g0:=eB (yx R6);go_wp2_with fail;clear s0 f0 r0 g0;rw[yx HO];refine bodyPost_ret (v:=.agg #[.slice a L.length cap,J Y lim,J Y 0,J Y 0,J Y 0,J Y 0,J Y 0,J Y 0,J Y (fr+1),J Y 0]) ?_ rfl ⟨⟨a,cap,rfl,?_⟩,?_⟩
   ·refine eN _ _ (w.heap.size+1) _ lim 0 0 0 0 0 0 (fr+1) 0 rfl (bw (t:=39) (aU (L:=[.slice none 0 0,J Y 0,J Y 0,J Y 0,J Y 0,J Y 0,J Y 0,J Y 0,J Y 0,J Y 0]) (t:=39) ?_ rfl _ lim 0 0 0 0 0 0 (fr+1) 0));iterate 9 (refine Blk.other ?_ _ _ (show w.heap.size+1≠w2.heap.size by omega))
    exact yx R6
   ·refine ay.low (B:=w.heap.size+1+1) ?_ (by omega);iterate 10 (refine ay.far ?_ (Nat.lt_succ_self (w.heap.size+1)) _ _)
    iterate 9 (refine ay.off ?_ (fun y e=>Nat.ne_of_lt (hcb y e)) _ _)
    exact yx C6
   ·iterate 10 (refine aB ?_ (show w.heap.size≤w.heap.size+1 by omega) _ _)
    iterate 9 (refine aB ?_ (show w.heap.size≤w2.heap.size by omega) _ _)
    exact yx B6
  ·have HO:Hid (eG ⟨L,lim,mode,A,B,C,D,coast,fr⟩ S=⟨L,lim,2,A,B,C,D,coast+1,fr+1⟩):=yz (by rw[yx hO3 hneg htc];unfold bz;dsimp only;rw[if_neg h1,if_neg hlc]);go_wp2_with fail;clear q0 s0 f0 r0 g0 j0 j1 j2;rw[yx HO];refine bodyPost_ret (v:=.agg #[.slice a L.length cap,J Y lim,J Y 2,J Y A,J Y B,J Y C,J Y D,J Y (coast+1),J Y (fr+1),J Y 0]) ?_ rfl ⟨⟨a,cap,rfl,?_⟩,?_⟩
   ·refine eN _ _ (w.heap.size+1) _ lim 2 A B C D (coast+1) (fr+1) 0 rfl (bw (t:=39) (aU (L:=[.slice none 0 0,J Y 0,J Y 0,J Y 0,J Y 0,J Y 0,J Y 0,J Y 0,J Y 0,J Y 0]) (t:=39) ?_ rfl _ lim 2 A B C D (coast+1) (fr+1) 0));iterate 2 (refine Blk.other ?_ _ _ (show w.heap.size+1≠w2.heap.size by omega))
    exact yx R4
   ·refine ay.low (B:=w.heap.size+1+1) ?_ (by omega);iterate 10 (refine ay.far ?_ (Nat.lt_succ_self (w.heap.size+1)) _ _)
    iterate 2 (refine ay.off ?_ (fun y e=>Nat.ne_of_lt (hcb y e)) _ _)
    exact yx C4
   ·iterate 10 (refine aB ?_ (show w.heap.size≤w.heap.size+1 by omega) _ _)
    iterate 2 (refine aB ?_ (show w.heap.size≤w2.heap.size by omega) _ _)
    exact yx B4
end
section
open Go.Value renaming int → J
open Go.IntKind renaming i64 → Z
open Go.RowKit Go.Sort
theorem nZ(L:List St)(S:List D3)(lim mode A B C D coast fr:Int)(ad:Option Addr)(c:Nat)(br:Option Addr)(dr:Nat)(w:World)(hn:L.length≤1048576)(hn2:S.length≤1048576)(hS:aH w ad L L.length)(hD:bi w br S S.length)(hb:∀y,ad=some y→y.block<w.heap.size)(hB:∀y,br=some y→y.block<w.heap.size)(hdr:S.length≤dr)(hd9:dr≤9223372036854775807):
  Calls Tryz.prog 64 #[.agg #[.slice ad L.length c,J Z lim,J Z mode,J Z A,J Z B,J Z C,J Z D,J Z coast,J Z fr],.slice br S.length dr] w fun e w'=>jx w' w.heap.size (fF ⟨L,lim,mode,A,B,C,D,coast,fr⟩ S) (gp ⟨L,lim,mode,A,B,C,D,coast,fr⟩ S) e∧Below w.heap.size w w':=by
 have B0:=yz (aF w (.cells #[.slice ad L.length c,J Z lim,J Z mode,J Z A,J Z B,J Z C,J Z D,J Z coast,J Z fr] 37) (.cells #[.slice none 0 0,J Z 0,J Z 0,J Z 0,J Z 0,J Z 0,J Z 0,J Z 0,J Z 0,J Z 0] 39));have A0:=yz ((ap w [.slice ad L.length c,J Z lim,J Z mode,J Z A,J Z B,J Z C,J Z D,J Z coast,J Z fr] 37).alloc (.cells #[.slice none 0 0,J Z 0,J Z 0,J Z 0,J Z 0,J Z 0,J Z 0,J Z 0,J Z 0,J Z 0] 39));have R0:=yz (by simpa using ap (w.alloc (.cells #[.slice ad L.length c,J Z lim,J Z mode,J Z A,J Z B,J Z C,J Z D,J Z coast,J Z fr] 37)) [.slice none 0 0,J Z 0,J Z 0,J Z 0,J Z 0,J Z 0,J Z 0,J Z 0,J Z 0,J Z 0] 39:Blk ((w.alloc (.cells #[.slice ad L.length c,J Z lim,J Z mode,J Z A,J Z B,J Z C,J Z D,J Z coast,J Z fr] 37)).alloc (.cells #[.slice none 0 0,J Z 0,J Z 0,J Z 0,J Z 0,J Z 0,J Z 0,J Z 0,J Z 0,J Z 0] 39)) (w.heap.size+1) [.slice none 0 0,J Z 0,J Z 0,J Z 0,J Z 0,J Z 0,J Z 0,J Z 0,J Z 0,J Z 0] 39);have S0:=yz (hS.kept (yx B0));have D0:=yz (hD.kept (yx B0));have hl0:w.heap.size+1+1≤((w.alloc (.cells #[.slice ad L.length c,J Z lim,J Z mode,J Z A,J Z B,J Z C,J Z D,J Z coast,J Z fr] 37)).alloc (.cells #[.slice none 0 0,J Z 0,J Z 0,J Z 0,J Z 0,J Z 0,J Z 0,J Z 0,J Z 0,J Z 0] 39)).heap.size:=by simp
 clear hS hD;by_cases hbig:400<S.length
 ·have HO:=yz (yt (t:=⟨L,lim,mode,A,B,C,D,coast,fr⟩) hbig);have hb':(400:Int)<(S.length:Int):=by omega
  clear hbig;go_enter Tryz.func64,Tryz.ntmps64;go_wp2_with fail;refine(gd 2 _).mono ?_;rintro e wz ⟨rfl,hx⟩;have Rz:=an R0 hx;have Bz:=aA B0 hx;clear hx;have r0:=dP (yx Rz);have g0:=eB (yx Rz);go_wp2_with fail;clear r0 g0;refine bodyPost_ret (v:=.agg #[.slice none 0 0,J Z 0,J Z 0,J Z 0,J Z 0,J Z 0,J Z 0,J Z 0,J Z 0,J Z 2]) ?_ rfl ⟨?_,?_⟩
  ·exact jU _ _ (w.heap.size+1) _ 0 0 0 0 0 0 0 0 2 rfl (bw (aU (yx Rz) rfl _ 0 0 0 0 0 0 0 0 2))
  ·rw[(yx HO).1,(yx HO).2];exact dL _ _ _
  ·iterate 10 (refine aB ?_ (show w.heap.size≤w.heap.size+1 by omega) _ _)
   exact yx Bz
 have hb':¬(400:Int)<(S.length:Int):=by omega
 have cR:=yz (fR L lim mode A B C D coast fr ad c _ hn (yx S0));go_enter Tryz.func64,Tryz.ntmps64;go_wp2_with fail;refine(yx cR).mono ?_;rintro e w1 ⟨rfl,hx⟩;have A1:=an A0 hx;have R1:=an R0 hx;have S1:=an S0 hx;have D1:=an D0 hx;have B1:=aA B0 hx;have hl1:=hx.size;clear hx cR A0 R0 S0 D0 B0;cases hk:aZ ⟨L,lim,mode,A,B,C,D,coast,fr⟩
 ·have HO:=yz (nH (t:=⟨L,lim,mode,A,B,C,D,coast,fr⟩) (S:=S) hbig (by rw[hk];rfl));clear hk;go_wp2_with fail;refine(gd 1 _).mono ?_;rintro e wz ⟨rfl,hx⟩;have Rz:=an R1 hx;have Bz:=aA B1 hx;clear hx;have r0:=dP (yx Rz);have g0:=eB (yx Rz);go_wp2_with fail;clear r0 g0;refine bodyPost_ret (v:=.agg #[.slice none 0 0,J Z 0,J Z 0,J Z 0,J Z 0,J Z 0,J Z 0,J Z 0,J Z 0,J Z 1]) ?_ rfl ⟨?_,?_⟩
  ·exact jU _ _ (w.heap.size+1) _ 0 0 0 0 0 0 0 0 1 rfl (bw (aU (yx Rz) rfl _ 0 0 0 0 0 0 0 0 1))
  ·rw[(yx HO).1,(yx HO).2];exact dL _ _ _
  ·iterate 10 (refine aB ?_ (show w.heap.size≤w.heap.size+1 by omega) _ _)
   exact yx Bz
 go_wp2_with fail;refine(iZ S br dr _ hn2 (yx D1)).mono ?_;rintro e w2 ⟨rfl,hx⟩;have A2:=an A1 hx;have R2:=an R1 hx;have S2:=an S1 hx;have D2:=an D1 hx;have B2:=aA B1 hx;have hl2:=hx.size;clear hx A1 R1 S1 D1 B1;cases hp:aL S
 ·have HO:=yz (nH (t:=⟨L,lim,mode,A,B,C,D,coast,fr⟩) (S:=S) hbig (by rw[hp];simp));clear hk hp;go_wp2_with fail;refine(gd 1 _).mono ?_;rintro e wz ⟨rfl,hx⟩;have Rz:=an R2 hx;have Bz:=aA B2 hx;clear hx;have r0:=dP (yx Rz);have g0:=eB (yx Rz);go_wp2_with fail;clear r0 g0;refine bodyPost_ret (v:=.agg #[.slice none 0 0,J Z 0,J Z 0,J Z 0,J Z 0,J Z 0,J Z 0,J Z 0,J Z 0,J Z 1]) ?_ rfl ⟨?_,?_⟩
  ·exact jU _ _ (w.heap.size+1) _ 0 0 0 0 0 0 0 0 1 rfl (bw (aU (yx Rz) rfl _ 0 0 0 0 0 0 0 0 1))
  ·rw[(yx HO).1,(yx HO).2];exact dL _ _ _
  ·iterate 10 (refine aB ?_ (show w.heap.size≤w.heap.size+1 by omega) _ _)
   exact yx Bz
 obtain⟨hsk,hmd,hrt,hco,hfr⟩:=pO hk;dsimp only at hsk hmd hrt hco hfr;by_cases hf:fr=1000000
 ·have HO:=yz (uT (t:=⟨L,lim,mode,A,B,C,D,coast,fr⟩) (S:=S) hbig hk hp hf);have hf':(1000000:Int)≤fr:=by omega
  clear hk hp hsk hmd hrt hco hfr;have q0:=dO (yx A2);go_wp2_with fail;clear q0;refine(gd 9 _).mono ?_;rintro e wz ⟨rfl,hx⟩;have Rz:=an R2 hx;have Bz:=aA B2 hx;clear hx;have r0:=dP (yx Rz);have g0:=eB (yx Rz);go_wp2_with fail;clear r0 g0;refine bodyPost_ret (v:=.agg #[.slice none 0 0,J Z 0,J Z 0,J Z 0,J Z 0,J Z 0,J Z 0,J Z 0,J Z 0,J Z 9]) ?_ rfl ⟨?_,?_⟩
  ·exact jU _ _ (w.heap.size+1) _ 0 0 0 0 0 0 0 0 9 rfl (bw (aU (yx Rz) rfl _ 0 0 0 0 0 0 0 0 9))
  ·rw[(yx HO).1,(yx HO).2];exact dL _ _ _
  ·iterate 10 (refine aB ?_ (show w.heap.size≤w.heap.size+1 by omega) _ _)
   exact yx Bz
 have HO:=yz (yu (t:=⟨L,lim,mode,A,B,C,D,coast,fr⟩) (S:=S) hbig hk hp hf);have hf':¬(1000000:Int)≤fr:=by omega
 have cK:=yz (yo L S lim mode A B C D coast fr ad c br dr w2 hn hdr hd9 (yx S2) (yx D2) (fun y e=>by have:=hb y e;omega) (fun y e=>by have:=hB y e;omega) hsk hp hmd hrt hco.1 hco.2 hfr.1 hfr.2);obtain⟨lr,hlr⟩:∃z,eG ⟨L,lim,mode,A,B,C,D,coast,fr⟩ S=z:=⟨_,rfl⟩
 have HL:=yz (wA ⟨L,lim,mode,A,B,C,D,coast,fr⟩ S);rw[hlr]at HO HL cK;obtain⟨L2,lim2,mode2,A2',B2',C2,D2',coast2,fr2⟩:=lr;dsimp only at HL;clear hk hp hlr hsk hmd hrt hco hfr hf;have q0:=dO (yx A2);go_wp2_with fail;clear q0;refine(yx cK).mono ?_;rintro e w3 ⟨⟨a,cap,he,hC⟩,hx⟩;dsimp only at he hC;have hL3:L2=L:=yx HL;subst hL3;subst he;have C5:=yz (hC.low (B':=w.heap.size+1+1) (by omega));have R5:=an R2 hx;have B5:=aA B2 hx;clear hx hC R2 B2 A2 S2 D2 cK;have r0:=dP (yx R5);have g0:=eB (yx R5);go_wp2_with fail;clear r0 g0;refine bodyPost_ret (v:=.agg #[.slice a L2.length cap,J Z lim2,J Z mode2,J Z A2',J Z B2',J Z C2,J Z D2',J Z coast2,J Z fr2,J Z 0]) ?_ rfl ⟨?_,?_⟩
 ·exact jU _ _ (w.heap.size+1) _ lim2 mode2 A2' B2' C2 D2' coast2 fr2 0 rfl (bw (aU (yx R5) rfl _ lim2 mode2 A2' B2' C2 D2' coast2 fr2 0))
 ·rw[(yx HO).1,(yx HO).2];refine⟨a,cap,rfl,?_⟩;refine ay.low (B:=w.heap.size+1+1) ?_ (by omega);iterate 10 (refine ay.far ?_ (Nat.lt_succ_self (w.heap.size+1)) _ _)
  exact yx C5
 ·iterate 10 (refine aB ?_ (show w.heap.size≤w.heap.size+1 by omega) _ _)
  exact yx B5
end
section
open Go.RowKit Go.Sort
theorem uS(t:Tk)(S:List D3)(h:t.L.length≤1048576):(fF t S).L.length≤1048576:=by
 unfold fF;split
 ·exact Nat.zero_le _
 ·split
  ·split
   ·exact Nat.zero_le _
   ·rw[wA];exact h
  ·exact Nat.zero_le _
end
end Go.Proofs.YteoonaanoenjiaaGreatDoor
