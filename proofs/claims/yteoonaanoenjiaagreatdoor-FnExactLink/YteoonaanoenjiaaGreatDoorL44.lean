/- Several texts in one: ObC, ObD, TeA, LnM. -/
import Derived.Test.YteoonaanoenjiaaGreatDoorL43
namespace Go.Proofs.YteoonaanoenjiaaGreatDoor
set_option linter.unusedVariables false
set_option linter.unusedSimpArgs false
set_option maxRecDepth 100000
set_option maxHeartbeats 8000000
section
open Go.Value renaming int → J
open Go.IntKind renaming i64 → Z
open Go.RowKit Go.Sort
def eS(t:Tk)(c:Cm):Tk:=if bu c=true then (if c.kind=1 then fL t else if c.kind=2 then iu t c.A c.B c.C c.D else if c.kind=3 then fF t c.S else fF t (gA (be c.wd c.ht c.px c.lv c.fo))) else eh
def fm(t:Tk)(c:Cm):Int:=if bu c=true then (if c.kind=1 then gh t else if c.kind=2 then iQ t c.A c.B c.C c.D else if c.kind=3 then gp t c.S else gp t (gA (be c.wd c.ht c.px c.lv c.fo))) else 1
variable {cs:List Value} {b b':Nat} {t:TypeId} {w:World}
theorem wI{t:Tk}{c:Cm}(h:bu c=true)(hk:c.kind=1):eS t c=fL t∧fm t c=gh t:=by unfold eS fm;rw[if_pos h,if_pos hk,if_pos h,if_pos hk];exact⟨rfl,rfl⟩
theorem wJ{t:Tk}{c:Cm}(h:bu c=true)(hk:c.kind=2):eS t c=iu t c.A c.B c.C c.D∧fm t c=iQ t c.A c.B c.C c.D:=by
 unfold eS fm;rw[if_pos h,if_neg (by omega),if_pos hk,if_pos h,if_neg (by omega),if_pos hk];exact⟨rfl,rfl⟩
theorem wK{t:Tk}{c:Cm}(h:bu c=true)(hk:c.kind=3):eS t c=fF t c.S∧fm t c=gp t c.S:=by
 unfold eS fm;rw[if_pos h,if_neg (by omega),if_neg (by omega),if_pos hk,if_pos h,if_neg (by omega),if_neg (by omega),if_pos hk];exact⟨rfl,rfl⟩
theorem wL{t:Tk}{c:Cm}(h:bu c=true)(hk:c.kind=4):eS t c=fF t (gA (be c.wd c.ht c.px c.lv c.fo))∧fm t c=gp t (gA (be c.wd c.ht c.px c.lv c.fo)):=by
 unfold eS fm;rw[if_pos h,if_neg (by omega),if_neg (by omega),if_neg (by omega),if_pos h,if_neg (by omega),if_neg (by omega),if_neg (by omega)];exact⟨rfl,rfl⟩
theorem Hy{t:Tk}{c:Cm}(h:bu c=false):eS t c=eh∧fm t c=1:=by
 unfold eS fm;rw[if_neg (by rw[h];decide),if_neg (by rw[h];decide)];exact⟨rfl,rfl⟩
theorem sH{c:Cm}(h:bu c=true):c.kind=1∨c.kind=2∨c.kind=3∨c.kind=4:=by
 by_cases h1:c.kind=1
 ·exact .inl h1
 by_cases h2:c.kind=2
 ·exact .inr (.inl h2)
 by_cases h3:c.kind=3
 ·exact .inr (.inr (.inl h3))
 by_cases h4:c.kind=4
 ·exact .inr (.inr (.inr h4))
 ·rw[BC h1 h2 h3 h4]at h;cases h
theorem uy(R:List D3):(gA R).length≤6:=(qE R R.length).1
theorem xk(wd ht:Int)(s:ByteArray)(lv fo:Int):AB (be wd ht s lv fo):=by
 intro j hj
 have hm:vA (be wd ht s lv fo) j∈be wd ht s lv fo:=by
  unfold vA;rw[List.getD_eq_getElem?_getD,List.getElem?_eq_getElem hj];exact List.getElem_mem hj
 generalize vA (be wd ht s lv fo) j=v at hm;unfold be at hm;split at hm
 ·unfold dM at hm;rw[List.mem_map]at hm;obtain⟨b,hb,rfl⟩:=hm;have:=(List.mem_filter.1 hb).2;unfold pJ at this;rw[Bool.and_eq_true]at this;exact(fU this.2).1
 ·cases hm
theorem Blk.offO(h:Blk w b cs t)(hne:b≠b')(o:Nat)(x:Value):Blk (w.setCell ⟨b',o,none⟩ x) b cs t:=by
 unfold Blk at h ⊢;rw[Below.heap_setCell w ⟨b',o,none⟩ x b hne];exact h
theorem iF(h:Blk w b cs t)(hne:b≠b')(y0 y1 y2 y3 y4 y5 y6 y7 y8 y9:Value):Blk ((((((((((w.setCell ⟨b',0,none⟩ y0).setCell ⟨b',1,none⟩ y1).setCell ⟨b',2,none⟩ y2).setCell ⟨b',3,none⟩ y3).setCell ⟨b',4,none⟩ y4).setCell ⟨b',5,none⟩ y5).setCell ⟨b',6,none⟩ y6).setCell ⟨b',7,none⟩ y7).setCell ⟨b',8,none⟩ y8).setCell ⟨b',9,none⟩ y9) b cs t:=
 (((((((((h.offO hne 0 y0).offO hne 1 y1).offO hne 2 y2).offO hne 3 y3).offO hne 4 y4).offO hne 5 y5).offO hne 6 y6).offO hne 7 y7).offO hne 8 y8).offO hne 9 y9
theorem qP(T:Array Value)(X:World)(b:Nat)(v:Value)(lim mode A B C D coast fr code:Int)(hT:T.getD 4 undef=.pointer (some ⟨b,0,none⟩))(h:TkO X b v lim mode A B C D coast fr code):(results Tryz.f29 T).run Tryz.prog X=.ok (.agg #[v,J Z lim,J Z mode,J Z A,J Z B,J Z C,J Z D,J Z coast,J Z fr,J Z code]) X:=by
 obtain⟨⟨h0,h1,h2,h3,h4,h5,h6,h7,h8⟩,h9⟩:=h;simp only[Array.getD_eq_getD_getElem?]at hT;simp[results,Tryz.results29,go_sem,hT,h0,h1,h2,h3,h4,h5,h6,h7,h8,h9]
theorem Dm(L:List St)(lim mode A B C D coast fr:Int)(ad:Option Addr)(c:Nat)(S:List D3)(g1 g2 g3 g4 wd ht lv fo:Int)(px:ByteArray)(br:Option Addr)(dr:Nat)(w:World)(hn:L.length≤1048576)(hS:aH w ad L L.length)(hb:∀y,ad=some y→y.block<w.heap.size)(hn2:S.length≤1048576)(hdr:S.length≤dr)(hd9:dr≤9223372036854775807)(hD:bi w br S S.length)(hB:∀y,br=some y→y.block<w.heap.size)(hc:bu ⟨1,g1,g2,g3,g4,S,wd,ht,px,lv,fo⟩=true)(hs:px.size≤maxLen):
  Calls Tryz.prog 29 #[.agg #[.slice ad L.length c,J Z lim,J Z mode,J Z A,J Z B,J Z C,J Z D,J Z coast,J Z fr],.agg #[J Z 1,J Z g1,J Z g2,J Z g3,J Z g4,.slice br S.length dr,J Z wd,J Z ht,.string px,J Z lv,J Z fo]] w fun e w'=>jx w' w.heap.size (eS ⟨L,lim,mode,A,B,C,D,coast,fr⟩ ⟨1,g1,g2,g3,g4,S,wd,ht,px,lv,fo⟩) (fm ⟨L,lim,mode,A,B,C,D,coast,fr⟩ ⟨1,g1,g2,g3,g4,S,wd,ht,px,lv,fo⟩) e∧Below w.heap.size w w':=by
 rw[(wI hc rfl).1,(wI hc rfl).2];try dsimp only
 clear hc;have B0:=yz (bq w (.cells #[.slice ad L.length c,J Z lim,J Z mode,J Z A,J Z B,J Z C,J Z D,J Z coast,J Z fr] 37) (.cells #[J Z 1,J Z g1,J Z g2,J Z g3,J Z g4,.slice br S.length dr,J Z wd,J Z ht,.string px,J Z lv,J Z fo] 45) (.cells #[.slice none 0 0,J Z 0,J Z 0,J Z 0,J Z 0,J Z 0,J Z 0,J Z 0,J Z 0,J Z 0] 39));have A0:=yz (((ap w [.slice ad L.length c,J Z lim,J Z mode,J Z A,J Z B,J Z C,J Z D,J Z coast,J Z fr] 37).alloc (.cells #[J Z 1,J Z g1,J Z g2,J Z g3,J Z g4,.slice br S.length dr,J Z wd,J Z ht,.string px,J Z lv,J Z fo] 45)).alloc (.cells #[.slice none 0 0,J Z 0,J Z 0,J Z 0,J Z 0,J Z 0,J Z 0,J Z 0,J Z 0,J Z 0] 39));have K0:=yz ((by simpa using ap (w.alloc (.cells #[.slice ad L.length c,J Z lim,J Z mode,J Z A,J Z B,J Z C,J Z D,J Z coast,J Z fr] 37)) [J Z 1,J Z g1,J Z g2,J Z g3,J Z g4,.slice br S.length dr,J Z wd,J Z ht,.string px,J Z lv,J Z fo] 45:Blk ((w.alloc (.cells #[.slice ad L.length c,J Z lim,J Z mode,J Z A,J Z B,J Z C,J Z D,J Z coast,J Z fr] 37)).alloc (.cells #[J Z 1,J Z g1,J Z g2,J Z g3,J Z g4,.slice br S.length dr,J Z wd,J Z ht,.string px,J Z lv,J Z fo] 45)) (w.heap.size+1) [J Z 1,J Z g1,J Z g2,J Z g3,J Z g4,.slice br S.length dr,J Z wd,J Z ht,.string px,J Z lv,J Z fo] 45).alloc (.cells #[.slice none 0 0,J Z 0,J Z 0,J Z 0,J Z 0,J Z 0,J Z 0,J Z 0,J Z 0,J Z 0] 39));have R0:=yz (by simpa using ap ((w.alloc (.cells #[.slice ad L.length c,J Z lim,J Z mode,J Z A,J Z B,J Z C,J Z D,J Z coast,J Z fr] 37)).alloc (.cells #[J Z 1,J Z g1,J Z g2,J Z g3,J Z g4,.slice br S.length dr,J Z wd,J Z ht,.string px,J Z lv,J Z fo] 45)) [.slice none 0 0,J Z 0,J Z 0,J Z 0,J Z 0,J Z 0,J Z 0,J Z 0,J Z 0,J Z 0] 39:Blk (((w.alloc (.cells #[.slice ad L.length c,J Z lim,J Z mode,J Z A,J Z B,J Z C,J Z D,J Z coast,J Z fr] 37)).alloc (.cells #[J Z 1,J Z g1,J Z g2,J Z g3,J Z g4,.slice br S.length dr,J Z wd,J Z ht,.string px,J Z lv,J Z fo] 45)).alloc (.cells #[.slice none 0 0,J Z 0,J Z 0,J Z 0,J Z 0,J Z 0,J Z 0,J Z 0,J Z 0,J Z 0] 39)) (w.heap.size+1+1) [.slice none 0 0,J Z 0,J Z 0,J Z 0,J Z 0,J Z 0,J Z 0,J Z 0,J Z 0,J Z 0] 39);have hl0:w.heap.size+1+1+1≤(((w.alloc (.cells #[.slice ad L.length c,J Z lim,J Z mode,J Z A,J Z B,J Z C,J Z D,J Z coast,J Z fr] 37)).alloc (.cells #[J Z 1,J Z g1,J Z g2,J Z g3,J Z g4,.slice br S.length dr,J Z wd,J Z ht,.string px,J Z lv,J Z fo] 45)).alloc (.cells #[.slice none 0 0,J Z 0,J Z 0,J Z 0,J Z 0,J Z 0,J Z 0,J Z 0,J Z 0,J Z 0] 39)).heap.size:=by simp
 have hb0:∀W:World,Below w.heap.size w W→∀y,ad=some y→y.block<W.heap.size:=fun W h y e=>Nat.lt_of_lt_of_le (hb y e) h.size;have hB0:∀W:World,Below w.heap.size w W→∀y,br=some y→y.block<W.heap.size:=fun W h y e=>Nat.lt_of_lt_of_le (hB y e) h.size;have cK:=yz (fun (W:World) (h:Below w.heap.size w W)=>tX L lim mode A B C D coast fr ad c W hn (hS.kept h));obtain⟨t2,ht2⟩:∃z,fL ⟨L,lim,mode,A,B,C,D,coast,fr⟩=z:=⟨_,rfl⟩
 obtain⟨code,hco⟩:∃z,gh ⟨L,lim,mode,A,B,C,D,coast,fr⟩=z:=⟨_,rfl⟩
 rw[ht2,hco]at cK ⊢;obtain⟨L2,lim2,mode2,A2,B2,C2,D2,coast2,fr2⟩:=t2;clear ht2 hco hS hD hb hB hb0 hB0;go_enter Tryz.func29,Tryz.ntmps29;have k0:=(yx K0).cell 0 _ rfl;have q0:=dO (yx A0);go_wp2_with fail;clear q0 k0;refine(yx cK _ (yx B0)).mono ?_;rintro e w3 ⟨⟨a2,c2,rfl,hC⟩,hx⟩;dsimp only at hC;have C5:=yz (hC.low (B':=w.heap.size+1+1+1) (by omega));have R5:=an R0 hx;have B5:=aA B0 hx;clear hx hC R0 B0 A0 K0 cK;have r0:=dP (yx R5);have e0:=eB (yx R5);go_wp2_with fail;clear r0 e0;refine bodyPost_ret (v:=.agg #[.slice a2 L2.length c2,J Z lim2,J Z mode2,J Z A2,J Z B2,J Z C2,J Z D2,J Z coast2,J Z fr2,J Z code]) ?_ rfl ⟨?_,?_⟩
 ·exact qP _ _ (w.heap.size+1+1) _ lim2 mode2 A2 B2 C2 D2 coast2 fr2 code rfl (bw (aU (yx R5) rfl _ lim2 mode2 A2 B2 C2 D2 coast2 fr2 code))
 ·refine⟨a2,c2,rfl,?_⟩;refine ay.low (B:=w.heap.size+1+1+1) ?_ (by omega);iterate 10 (refine ay.far ?_ (Nat.lt_succ_self (w.heap.size+1+1)) _ _)
  exact yx C5
 ·iterate 10 (refine aB ?_ (show w.heap.size≤w.heap.size+1+1 by omega) _ _)
  exact yx B5
theorem Dn(L:List St)(lim mode A B C D coast fr:Int)(ad:Option Addr)(c:Nat)(S:List D3)(g1 g2 g3 g4 wd ht lv fo:Int)(px:ByteArray)(br:Option Addr)(dr:Nat)(w:World)(hn:L.length≤1048576)(hS:aH w ad L L.length)(hb:∀y,ad=some y→y.block<w.heap.size)(hn2:S.length≤1048576)(hdr:S.length≤dr)(hd9:dr≤9223372036854775807)(hD:bi w br S S.length)(hB:∀y,br=some y→y.block<w.heap.size)(hc:bu ⟨2,g1,g2,g3,g4,S,wd,ht,px,lv,fo⟩=true)(hs:px.size≤maxLen):
  Calls Tryz.prog 29 #[.agg #[.slice ad L.length c,J Z lim,J Z mode,J Z A,J Z B,J Z C,J Z D,J Z coast,J Z fr],.agg #[J Z 2,J Z g1,J Z g2,J Z g3,J Z g4,.slice br S.length dr,J Z wd,J Z ht,.string px,J Z lv,J Z fo]] w fun e w'=>jx w' w.heap.size (eS ⟨L,lim,mode,A,B,C,D,coast,fr⟩ ⟨2,g1,g2,g3,g4,S,wd,ht,px,lv,fo⟩) (fm ⟨L,lim,mode,A,B,C,D,coast,fr⟩ ⟨2,g1,g2,g3,g4,S,wd,ht,px,lv,fo⟩) e∧Below w.heap.size w w':=by
 rw[(wJ hc rfl).1,(wJ hc rfl).2];try dsimp only
 clear hc;have B0:=yz (bq w (.cells #[.slice ad L.length c,J Z lim,J Z mode,J Z A,J Z B,J Z C,J Z D,J Z coast,J Z fr] 37) (.cells #[J Z 2,J Z g1,J Z g2,J Z g3,J Z g4,.slice br S.length dr,J Z wd,J Z ht,.string px,J Z lv,J Z fo] 45) (.cells #[.slice none 0 0,J Z 0,J Z 0,J Z 0,J Z 0,J Z 0,J Z 0,J Z 0,J Z 0,J Z 0] 39));have A0:=yz (((ap w [.slice ad L.length c,J Z lim,J Z mode,J Z A,J Z B,J Z C,J Z D,J Z coast,J Z fr] 37).alloc (.cells #[J Z 2,J Z g1,J Z g2,J Z g3,J Z g4,.slice br S.length dr,J Z wd,J Z ht,.string px,J Z lv,J Z fo] 45)).alloc (.cells #[.slice none 0 0,J Z 0,J Z 0,J Z 0,J Z 0,J Z 0,J Z 0,J Z 0,J Z 0,J Z 0] 39));have K0:=yz ((by simpa using ap (w.alloc (.cells #[.slice ad L.length c,J Z lim,J Z mode,J Z A,J Z B,J Z C,J Z D,J Z coast,J Z fr] 37)) [J Z 2,J Z g1,J Z g2,J Z g3,J Z g4,.slice br S.length dr,J Z wd,J Z ht,.string px,J Z lv,J Z fo] 45:Blk ((w.alloc (.cells #[.slice ad L.length c,J Z lim,J Z mode,J Z A,J Z B,J Z C,J Z D,J Z coast,J Z fr] 37)).alloc (.cells #[J Z 2,J Z g1,J Z g2,J Z g3,J Z g4,.slice br S.length dr,J Z wd,J Z ht,.string px,J Z lv,J Z fo] 45)) (w.heap.size+1) [J Z 2,J Z g1,J Z g2,J Z g3,J Z g4,.slice br S.length dr,J Z wd,J Z ht,.string px,J Z lv,J Z fo] 45).alloc (.cells #[.slice none 0 0,J Z 0,J Z 0,J Z 0,J Z 0,J Z 0,J Z 0,J Z 0,J Z 0,J Z 0] 39));have R0:=yz (by simpa using ap ((w.alloc (.cells #[.slice ad L.length c,J Z lim,J Z mode,J Z A,J Z B,J Z C,J Z D,J Z coast,J Z fr] 37)).alloc (.cells #[J Z 2,J Z g1,J Z g2,J Z g3,J Z g4,.slice br S.length dr,J Z wd,J Z ht,.string px,J Z lv,J Z fo] 45)) [.slice none 0 0,J Z 0,J Z 0,J Z 0,J Z 0,J Z 0,J Z 0,J Z 0,J Z 0,J Z 0] 39:Blk (((w.alloc (.cells #[.slice ad L.length c,J Z lim,J Z mode,J Z A,J Z B,J Z C,J Z D,J Z coast,J Z fr] 37)).alloc (.cells #[J Z 2,J Z g1,J Z g2,J Z g3,J Z g4,.slice br S.length dr,J Z wd,J Z ht,.string px,J Z lv,J Z fo] 45)).alloc (.cells #[.slice none 0 0,J Z 0,J Z 0,J Z 0,J Z 0,J Z 0,J Z 0,J Z 0,J Z 0,J Z 0] 39)) (w.heap.size+1+1) [.slice none 0 0,J Z 0,J Z 0,J Z 0,J Z 0,J Z 0,J Z 0,J Z 0,J Z 0,J Z 0] 39);have hl0:w.heap.size+1+1+1≤(((w.alloc (.cells #[.slice ad L.length c,J Z lim,J Z mode,J Z A,J Z B,J Z C,J Z D,J Z coast,J Z fr] 37)).alloc (.cells #[J Z 2,J Z g1,J Z g2,J Z g3,J Z g4,.slice br S.length dr,J Z wd,J Z ht,.string px,J Z lv,J Z fo] 45)).alloc (.cells #[.slice none 0 0,J Z 0,J Z 0,J Z 0,J Z 0,J Z 0,J Z 0,J Z 0,J Z 0,J Z 0] 39)).heap.size:=by simp
 have hb0:∀W:World,Below w.heap.size w W→∀y,ad=some y→y.block<W.heap.size:=fun W h y e=>Nat.lt_of_lt_of_le (hb y e) h.size;have hB0:∀W:World,Below w.heap.size w W→∀y,br=some y→y.block<W.heap.size:=fun W h y e=>Nat.lt_of_lt_of_le (hB y e) h.size;have cK:=yz (fun (W:World) (h:Below w.heap.size w W)=>xf L lim mode A B C D coast fr g1 g2 g3 g4 ad c W hn (hS.kept h));obtain⟨t2,ht2⟩:∃z,iu ⟨L,lim,mode,A,B,C,D,coast,fr⟩ g1 g2 g3 g4=z:=⟨_,rfl⟩
 obtain⟨code,hco⟩:∃z,iQ ⟨L,lim,mode,A,B,C,D,coast,fr⟩ g1 g2 g3 g4=z:=⟨_,rfl⟩
 rw[ht2,hco]at cK ⊢;obtain⟨L2,lim2,mode2,A2,B2,C2,D2,coast2,fr2⟩:=t2;clear ht2 hco hS hD hb hB hb0 hB0;go_enter Tryz.func29,Tryz.ntmps29;have k0:=(yx K0).cell 0 _ rfl;have q0:=dO (yx A0);have k1:=(yx K0).cell 1 _ rfl;have k2:=(yx K0).cell 2 _ rfl;have k3:=(yx K0).cell 3 _ rfl;have k4:=(yx K0).cell 4 _ rfl;go_wp2_with fail;clear q0 k0 k1 k2 k3 k4;refine(yx cK _ (yx B0)).mono ?_;rintro e w3 ⟨⟨a2,c2,rfl,hC⟩,hx⟩;dsimp only at hC;have C5:=yz (hC.low (B':=w.heap.size+1+1+1) (by omega));have R5:=an R0 hx;have B5:=aA B0 hx;clear hx hC R0 B0 A0 K0 cK;have r0:=dP (yx R5);have e0:=eB (yx R5);go_wp2_with fail;clear r0 e0;refine bodyPost_ret (v:=.agg #[.slice a2 L2.length c2,J Z lim2,J Z mode2,J Z A2,J Z B2,J Z C2,J Z D2,J Z coast2,J Z fr2,J Z code]) ?_ rfl ⟨?_,?_⟩
 ·exact qP _ _ (w.heap.size+1+1) _ lim2 mode2 A2 B2 C2 D2 coast2 fr2 code rfl (bw (aU (yx R5) rfl _ lim2 mode2 A2 B2 C2 D2 coast2 fr2 code))
 ·refine⟨a2,c2,rfl,?_⟩;refine ay.low (B:=w.heap.size+1+1+1) ?_ (by omega);iterate 10 (refine ay.far ?_ (Nat.lt_succ_self (w.heap.size+1+1)) _ _)
  exact yx C5
 ·iterate 10 (refine aB ?_ (show w.heap.size≤w.heap.size+1+1 by omega) _ _)
  exact yx B5
theorem Do(L:List St)(lim mode A B C D coast fr:Int)(ad:Option Addr)(c:Nat)(S:List D3)(g1 g2 g3 g4 wd ht lv fo:Int)(px:ByteArray)(br:Option Addr)(dr:Nat)(w:World)(hn:L.length≤1048576)(hS:aH w ad L L.length)(hb:∀y,ad=some y→y.block<w.heap.size)(hn2:S.length≤1048576)(hdr:S.length≤dr)(hd9:dr≤9223372036854775807)(hD:bi w br S S.length)(hB:∀y,br=some y→y.block<w.heap.size)(hc:bu ⟨3,g1,g2,g3,g4,S,wd,ht,px,lv,fo⟩=true)(hs:px.size≤maxLen):
  Calls Tryz.prog 29 #[.agg #[.slice ad L.length c,J Z lim,J Z mode,J Z A,J Z B,J Z C,J Z D,J Z coast,J Z fr],.agg #[J Z 3,J Z g1,J Z g2,J Z g3,J Z g4,.slice br S.length dr,J Z wd,J Z ht,.string px,J Z lv,J Z fo]] w fun e w'=>jx w' w.heap.size (eS ⟨L,lim,mode,A,B,C,D,coast,fr⟩ ⟨3,g1,g2,g3,g4,S,wd,ht,px,lv,fo⟩) (fm ⟨L,lim,mode,A,B,C,D,coast,fr⟩ ⟨3,g1,g2,g3,g4,S,wd,ht,px,lv,fo⟩) e∧Below w.heap.size w w':=by
 rw[(wK hc rfl).1,(wK hc rfl).2];try dsimp only
 clear hc;have B0:=yz (bq w (.cells #[.slice ad L.length c,J Z lim,J Z mode,J Z A,J Z B,J Z C,J Z D,J Z coast,J Z fr] 37) (.cells #[J Z 3,J Z g1,J Z g2,J Z g3,J Z g4,.slice br S.length dr,J Z wd,J Z ht,.string px,J Z lv,J Z fo] 45) (.cells #[.slice none 0 0,J Z 0,J Z 0,J Z 0,J Z 0,J Z 0,J Z 0,J Z 0,J Z 0,J Z 0] 39));have A0:=yz (((ap w [.slice ad L.length c,J Z lim,J Z mode,J Z A,J Z B,J Z C,J Z D,J Z coast,J Z fr] 37).alloc (.cells #[J Z 3,J Z g1,J Z g2,J Z g3,J Z g4,.slice br S.length dr,J Z wd,J Z ht,.string px,J Z lv,J Z fo] 45)).alloc (.cells #[.slice none 0 0,J Z 0,J Z 0,J Z 0,J Z 0,J Z 0,J Z 0,J Z 0,J Z 0,J Z 0] 39));have K0:=yz ((by simpa using ap (w.alloc (.cells #[.slice ad L.length c,J Z lim,J Z mode,J Z A,J Z B,J Z C,J Z D,J Z coast,J Z fr] 37)) [J Z 3,J Z g1,J Z g2,J Z g3,J Z g4,.slice br S.length dr,J Z wd,J Z ht,.string px,J Z lv,J Z fo] 45:Blk ((w.alloc (.cells #[.slice ad L.length c,J Z lim,J Z mode,J Z A,J Z B,J Z C,J Z D,J Z coast,J Z fr] 37)).alloc (.cells #[J Z 3,J Z g1,J Z g2,J Z g3,J Z g4,.slice br S.length dr,J Z wd,J Z ht,.string px,J Z lv,J Z fo] 45)) (w.heap.size+1) [J Z 3,J Z g1,J Z g2,J Z g3,J Z g4,.slice br S.length dr,J Z wd,J Z ht,.string px,J Z lv,J Z fo] 45).alloc (.cells #[.slice none 0 0,J Z 0,J Z 0,J Z 0,J Z 0,J Z 0,J Z 0,J Z 0,J Z 0,J Z 0] 39));have R0:=yz (by simpa using ap ((w.alloc (.cells #[.slice ad L.length c,J Z lim,J Z mode,J Z A,J Z B,J Z C,J Z D,J Z coast,J Z fr] 37)).alloc (.cells #[J Z 3,J Z g1,J Z g2,J Z g3,J Z g4,.slice br S.length dr,J Z wd,J Z ht,.string px,J Z lv,J Z fo] 45)) [.slice none 0 0,J Z 0,J Z 0,J Z 0,J Z 0,J Z 0,J Z 0,J Z 0,J Z 0,J Z 0] 39:Blk (((w.alloc (.cells #[.slice ad L.length c,J Z lim,J Z mode,J Z A,J Z B,J Z C,J Z D,J Z coast,J Z fr] 37)).alloc (.cells #[J Z 3,J Z g1,J Z g2,J Z g3,J Z g4,.slice br S.length dr,J Z wd,J Z ht,.string px,J Z lv,J Z fo] 45)).alloc (.cells #[.slice none 0 0,J Z 0,J Z 0,J Z 0,J Z 0,J Z 0,J Z 0,J Z 0,J Z 0,J Z 0] 39)) (w.heap.size+1+1) [.slice none 0 0,J Z 0,J Z 0,J Z 0,J Z 0,J Z 0,J Z 0,J Z 0,J Z 0,J Z 0] 39);have hl0:w.heap.size+1+1+1≤(((w.alloc (.cells #[.slice ad L.length c,J Z lim,J Z mode,J Z A,J Z B,J Z C,J Z D,J Z coast,J Z fr] 37)).alloc (.cells #[J Z 3,J Z g1,J Z g2,J Z g3,J Z g4,.slice br S.length dr,J Z wd,J Z ht,.string px,J Z lv,J Z fo] 45)).alloc (.cells #[.slice none 0 0,J Z 0,J Z 0,J Z 0,J Z 0,J Z 0,J Z 0,J Z 0,J Z 0,J Z 0] 39)).heap.size:=by simp
 have hb0:∀W:World,Below w.heap.size w W→∀y,ad=some y→y.block<W.heap.size:=fun W h y e=>Nat.lt_of_lt_of_le (hb y e) h.size;have hB0:∀W:World,Below w.heap.size w W→∀y,br=some y→y.block<W.heap.size:=fun W h y e=>Nat.lt_of_lt_of_le (hB y e) h.size;have cK:=yz (fun (W:World) (h:Below w.heap.size w W)=>nZ L S lim mode A B C D coast fr ad c br dr W hn hn2 (hS.kept h) (hD.kept h) (hb0 W h) (hB0 W h) hdr hd9);obtain⟨t2,ht2⟩:∃z,fF ⟨L,lim,mode,A,B,C,D,coast,fr⟩ S=z:=⟨_,rfl⟩
 obtain⟨code,hco⟩:∃z,gp ⟨L,lim,mode,A,B,C,D,coast,fr⟩ S=z:=⟨_,rfl⟩
 rw[ht2,hco]at cK ⊢;obtain⟨L2,lim2,mode2,A2,B2,C2,D2,coast2,fr2⟩:=t2;clear ht2 hco hS hD hb hB hb0 hB0;go_enter Tryz.func29,Tryz.ntmps29;have k0:=(yx K0).cell 0 _ rfl;have q0:=dO (yx A0);have k5:=(yx K0).cell 5 _ rfl;go_wp2_with fail;clear q0 k0 k5;refine(yx cK _ (yx B0)).mono ?_;rintro e w3 ⟨⟨a2,c2,rfl,hC⟩,hx⟩;dsimp only at hC;have C5:=yz (hC.low (B':=w.heap.size+1+1+1) (by omega));have R5:=an R0 hx;have B5:=aA B0 hx;clear hx hC R0 B0 A0 K0 cK;have r0:=dP (yx R5);have e0:=eB (yx R5);go_wp2_with fail;clear r0 e0;refine bodyPost_ret (v:=.agg #[.slice a2 L2.length c2,J Z lim2,J Z mode2,J Z A2,J Z B2,J Z C2,J Z D2,J Z coast2,J Z fr2,J Z code]) ?_ rfl ⟨?_,?_⟩
 ·exact qP _ _ (w.heap.size+1+1) _ lim2 mode2 A2 B2 C2 D2 coast2 fr2 code rfl (bw (aU (yx R5) rfl _ lim2 mode2 A2 B2 C2 D2 coast2 fr2 code))
 ·refine⟨a2,c2,rfl,?_⟩;refine ay.low (B:=w.heap.size+1+1+1) ?_ (by omega);iterate 10 (refine ay.far ?_ (Nat.lt_succ_self (w.heap.size+1+1)) _ _)
  exact yx C5
 ·iterate 10 (refine aB ?_ (show w.heap.size≤w.heap.size+1+1 by omega) _ _)
  exact yx B5
theorem Dp(L:List St)(lim mode A B C D coast fr:Int)(ad:Option Addr)(c:Nat)(S:List D3)(g1 g2 g3 g4 wd ht lv fo:Int)(px:ByteArray)(br:Option Addr)(dr:Nat)(w:World)(hn:L.length≤1048576)(hS:aH w ad L L.length)(hb:∀y,ad=some y→y.block<w.heap.size)(hn2:S.length≤1048576)(hdr:S.length≤dr)(hd9:dr≤9223372036854775807)(hD:bi w br S S.length)(hB:∀y,br=some y→y.block<w.heap.size)(hc:bu ⟨4,g1,g2,g3,g4,S,wd,ht,px,lv,fo⟩=true)(hs:px.size≤maxLen):
  Calls Tryz.prog 29 #[.agg #[.slice ad L.length c,J Z lim,J Z mode,J Z A,J Z B,J Z C,J Z D,J Z coast,J Z fr],.agg #[J Z 4,J Z g1,J Z g2,J Z g3,J Z g4,.slice br S.length dr,J Z wd,J Z ht,.string px,J Z lv,J Z fo]] w fun e w'=>jx w' w.heap.size (eS ⟨L,lim,mode,A,B,C,D,coast,fr⟩ ⟨4,g1,g2,g3,g4,S,wd,ht,px,lv,fo⟩) (fm ⟨L,lim,mode,A,B,C,D,coast,fr⟩ ⟨4,g1,g2,g3,g4,S,wd,ht,px,lv,fo⟩) e∧Below w.heap.size w w':=by
 rw[(wL hc rfl).1,(wL hc rfl).2];try dsimp only
 clear hc;have B0:=yz (bq w (.cells #[.slice ad L.length c,J Z lim,J Z mode,J Z A,J Z B,J Z C,J Z D,J Z coast,J Z fr] 37) (.cells #[J Z 4,J Z g1,J Z g2,J Z g3,J Z g4,.slice br S.length dr,J Z wd,J Z ht,.string px,J Z lv,J Z fo] 45) (.cells #[.slice none 0 0,J Z 0,J Z 0,J Z 0,J Z 0,J Z 0,J Z 0,J Z 0,J Z 0,J Z 0] 39));have A0:=yz (((ap w [.slice ad L.length c,J Z lim,J Z mode,J Z A,J Z B,J Z C,J Z D,J Z coast,J Z fr] 37).alloc (.cells #[J Z 4,J Z g1,J Z g2,J Z g3,J Z g4,.slice br S.length dr,J Z wd,J Z ht,.string px,J Z lv,J Z fo] 45)).alloc (.cells #[.slice none 0 0,J Z 0,J Z 0,J Z 0,J Z 0,J Z 0,J Z 0,J Z 0,J Z 0,J Z 0] 39));have K0:=yz ((by simpa using ap (w.alloc (.cells #[.slice ad L.length c,J Z lim,J Z mode,J Z A,J Z B,J Z C,J Z D,J Z coast,J Z fr] 37)) [J Z 4,J Z g1,J Z g2,J Z g3,J Z g4,.slice br S.length dr,J Z wd,J Z ht,.string px,J Z lv,J Z fo] 45:Blk ((w.alloc (.cells #[.slice ad L.length c,J Z lim,J Z mode,J Z A,J Z B,J Z C,J Z D,J Z coast,J Z fr] 37)).alloc (.cells #[J Z 4,J Z g1,J Z g2,J Z g3,J Z g4,.slice br S.length dr,J Z wd,J Z ht,.string px,J Z lv,J Z fo] 45)) (w.heap.size+1) [J Z 4,J Z g1,J Z g2,J Z g3,J Z g4,.slice br S.length dr,J Z wd,J Z ht,.string px,J Z lv,J Z fo] 45).alloc (.cells #[.slice none 0 0,J Z 0,J Z 0,J Z 0,J Z 0,J Z 0,J Z 0,J Z 0,J Z 0,J Z 0] 39));have R0:=yz (by simpa using ap ((w.alloc (.cells #[.slice ad L.length c,J Z lim,J Z mode,J Z A,J Z B,J Z C,J Z D,J Z coast,J Z fr] 37)).alloc (.cells #[J Z 4,J Z g1,J Z g2,J Z g3,J Z g4,.slice br S.length dr,J Z wd,J Z ht,.string px,J Z lv,J Z fo] 45)) [.slice none 0 0,J Z 0,J Z 0,J Z 0,J Z 0,J Z 0,J Z 0,J Z 0,J Z 0,J Z 0] 39:Blk (((w.alloc (.cells #[.slice ad L.length c,J Z lim,J Z mode,J Z A,J Z B,J Z C,J Z D,J Z coast,J Z fr] 37)).alloc (.cells #[J Z 4,J Z g1,J Z g2,J Z g3,J Z g4,.slice br S.length dr,J Z wd,J Z ht,.string px,J Z lv,J Z fo] 45)).alloc (.cells #[.slice none 0 0,J Z 0,J Z 0,J Z 0,J Z 0,J Z 0,J Z 0,J Z 0,J Z 0,J Z 0] 39)) (w.heap.size+1+1) [.slice none 0 0,J Z 0,J Z 0,J Z 0,J Z 0,J Z 0,J Z 0,J Z 0,J Z 0,J Z 0] 39);have hl0:w.heap.size+1+1+1≤(((w.alloc (.cells #[.slice ad L.length c,J Z lim,J Z mode,J Z A,J Z B,J Z C,J Z D,J Z coast,J Z fr] 37)).alloc (.cells #[J Z 4,J Z g1,J Z g2,J Z g3,J Z g4,.slice br S.length dr,J Z wd,J Z ht,.string px,J Z lv,J Z fo] 45)).alloc (.cells #[.slice none 0 0,J Z 0,J Z 0,J Z 0,J Z 0,J Z 0,J Z 0,J Z 0,J Z 0,J Z 0] 39)).heap.size:=by simp
 have hb0:∀W:World,Below w.heap.size w W→∀y,ad=some y→y.block<W.heap.size:=fun W h y e=>Nat.lt_of_lt_of_le (hb y e) h.size;have hB0:∀W:World,Below w.heap.size w W→∀y,br=some y→y.block<W.heap.size:=fun W h y e=>Nat.lt_of_lt_of_le (hB y e) h.size;have hRl:=sU wd ht px lv fo;have hRr:=xk wd ht px lv fo;have hFl:=uy (be wd ht px lv fo);have cP:=yz (fun W=>qx wd ht px lv fo W hs);have cK:=yz (fun (W:World) (h:Below w.heap.size w W) (x:Option Addr) (k:Nat) (hk:(gA (be wd ht px lv fo)).length≤k) (hk9:k≤9223372036854775807) (hd:bi W x (gA (be wd ht px lv fo)) (gA (be wd ht px lv fo)).length) (hx:∀y,x=some y→y.block<W.heap.size)=>nZ L (gA (be wd ht px lv fo)) lim mode A B C D coast fr ad c x k W hn (by omega) (hS.kept h) hd (hb0 W h) hx hk hk9);obtain⟨t2,ht2⟩:∃z,fF ⟨L,lim,mode,A,B,C,D,coast,fr⟩ (gA (be wd ht px lv fo))=z:=⟨_,rfl⟩
 obtain⟨code,hco⟩:∃z,gp ⟨L,lim,mode,A,B,C,D,coast,fr⟩ (gA (be wd ht px lv fo))=z:=⟨_,rfl⟩
 rw[ht2,hco]at cK ⊢;obtain⟨L2,lim2,mode2,A2,B2,C2,D2,coast2,fr2⟩:=t2;clear ht2 hco hS hD hb hB hb0 hB0;have cF:=yz (fun W x y h1 h2=>Ah (be wd ht px lv fo) x y W hRl hRr h1 h2);generalize gA (be wd ht px lv fo)=FS at cF cK hFl;generalize be wd ht px lv fo=RS at cF cP hRl;clear hRr;go_enter Tryz.func29,Tryz.ntmps29;have k0:=(yx K0).cell 0 _ rfl;go_wp2_with fail;clear k0;refine wp_region_held_drew (S:=(fun w'=>w'.cell? ⟨w.heap.size,0,none⟩=some (.slice ad L.length c)∧w'.cell? ⟨w.heap.size,1,none⟩=some (J Z lim)∧w'.cell? ⟨w.heap.size,2,none⟩=some (J Z mode)∧w'.cell? ⟨w.heap.size,3,none⟩=some (J Z A)∧w'.cell? ⟨w.heap.size,4,none⟩=some (J Z B)∧w'.cell? ⟨w.heap.size,5,none⟩=some (J Z C)∧w'.cell? ⟨w.heap.size,6,none⟩=some (J Z D)∧w'.cell? ⟨w.heap.size,7,none⟩=some (J Z coast)∧w'.cell? ⟨w.heap.size,8,none⟩=some (J Z fr)∧w'.cell? ⟨w.heap.size+1,6,none⟩=some (J Z wd)∧w'.cell? ⟨w.heap.size+1,7,none⟩=some (J Z ht)∧w'.cell? ⟨w.heap.size+1,8,none⟩=some (.string px)∧w'.cell? ⟨w.heap.size+1,9,none⟩=some (J Z lv)∧w'.cell? ⟨w.heap.size+1,10,none⟩=some (J Z fo) )) (by kernel_rfl) ?_ (fun hHeld=>?_)
 ·exact⟨(yx A0).cell 0 _ rfl,(yx A0).cell 1 _ rfl,(yx A0).cell 2 _ rfl,(yx A0).cell 3 _ rfl,(yx A0).cell 4 _ rfl,(yx A0).cell 5 _ rfl,(yx A0).cell 6 _ rfl,(yx A0).cell 7 _ rfl,(yx A0).cell 8 _ rfl,(yx K0).cell 6 _ rfl,(yx K0).cell 7 _ rfl,(yx K0).cell 8 _ rfl,(yx K0).cell 9 _ rfl,(yx K0).cell 10 _ rfl⟩
 refine ab 0 rfl ?_;try simp only[Act.put,ag,ah,ai]
 refine ab 1 rfl ?_;try simp only[Act.put,ag,ah,ai]
 refine ab 2 rfl ?_;try simp only[Act.put,ag,ah,ai]
 refine ab 3 rfl ?_;try simp only[Act.put,ag,ah,ai]
 refine ab 4 rfl ?_;try simp only[Act.put,ag,ah,ai]
 refine ab 5 rfl ?_;try simp only[Act.put,ag,ah,ai]
 refine ab 6 rfl ?_;try simp only[Act.put,ag,ah,ai]
 have Bd:=yz ((yx B0).drew);have Ad:=yz ((yx A0).drewn);have Kd:=yz ((yx K0).drewn);have Rd:=yz ((yx R0).drewn);have hld:w.heap.size+1+1+1≤(World.drew (((w.alloc (.cells #[.slice ad L.length c,J Z lim,J Z mode,J Z A,J Z B,J Z C,J Z D,J Z coast,J Z fr] 37)).alloc (.cells #[J Z 4,J Z g1,J Z g2,J Z g3,J Z g4,.slice br S.length dr,J Z wd,J Z ht,.string px,J Z lv,J Z fo] 45)).alloc (.cells #[.slice none 0 0,J Z 0,J Z 0,J Z 0,J Z 0,J Z 0,J Z 0,J Z 0,J Z 0,J Z 0] 39))).heap.size:=hl0;generalize World.drew (((w.alloc (.cells #[.slice ad L.length c,J Z lim,J Z mode,J Z A,J Z B,J Z C,J Z D,J Z coast,J Z fr] 37)).alloc (.cells #[J Z 4,J Z g1,J Z g2,J Z g3,J Z g4,.slice br S.length dr,J Z wd,J Z ht,.string px,J Z lv,J Z fo] 45)).alloc (.cells #[.slice none 0 0,J Z 0,J Z 0,J Z 0,J Z 0,J Z 0,J Z 0,J Z 0,J Z 0,J Z 0] 39))=V at Bd Ad Kd Rd hld hHeld ⊢;clear B0 A0 K0 R0 hl0;refine ae 7 rfl fun K hK=>?_;go_simp;refine(yx cP _).mono ?_;rintro e v1 ⟨⟨x1,rfl,ho⟩,hx⟩;obtain⟨a1,c1,rfl⟩:=bM ho;have B1:=aA Bd hx;have A1:=an Ad hx;have K1:=an Kd hx;have R1:=an Rd hx;have D1:=yz (iG ho).1;have hf1:∀y,a1=some y→y.block<v1.heap.size:=fun y e=>(qK ho y e).2;have hl1:=hx.size;clear hx ho Bd Ad Kd Rd cP;refine hK.out _ _ ⟨(yx A1).cell 0 _ rfl,(yx A1).cell 1 _ rfl,(yx A1).cell 2 _ rfl,(yx A1).cell 3 _ rfl,(yx A1).cell 4 _ rfl,(yx A1).cell 5 _ rfl,(yx A1).cell 6 _ rfl,(yx A1).cell 7 _ rfl,(yx A1).cell 8 _ rfl,(yx K1).cell 6 _ rfl,(yx K1).cell 7 _ rfl,(yx K1).cell 8 _ rfl,(yx K1).cell 9 _ rfl,(yx K1).cell 10 _ rfl⟩ (fun hHeld1=>?_);clear hK K hHeld;refine ae 8 rfl fun K hK=>?_;go_simp;refine(yx cF _ _ _ (yx D1) hf1).mono ?_;rintro e v2 ⟨⟨x2,rfl,ho⟩,hx⟩;obtain⟨a3,c3,rfl⟩:=bM ho;have B2':=aA B1 hx;have A2':=an A1 hx;have K2':=an K1 hx;have R2':=an R1 hx;have hm8:maxLen≤9223372036854775807:=by decide +kernel
 have hdd:=iG ho;have D2'':=yz hdd.1;have hf2:∀y,a3=some y→y.block<v2.heap.size:=fun y e=>(qK ho y e).2;have hc3:FS.length≤c3∧c3≤9223372036854775807:=by rcases hdd.2 with h | h<;>omega
 have hl2:=hx.size;clear hx ho hdd B1 A1 K1 R1 D1 cF;refine hK.out _ _ ⟨(yx A2').cell 0 _ rfl,(yx A2').cell 1 _ rfl,(yx A2').cell 2 _ rfl,(yx A2').cell 3 _ rfl,(yx A2').cell 4 _ rfl,(yx A2').cell 5 _ rfl,(yx A2').cell 6 _ rfl,(yx A2').cell 7 _ rfl,(yx A2').cell 8 _ rfl,(yx K2').cell 6 _ rfl,(yx K2').cell 7 _ rfl,(yx K2').cell 8 _ rfl,(yx K2').cell 9 _ rfl,(yx K2').cell 10 _ rfl⟩ (fun hHeld2=>?_);clear hK K hHeld1;refine ae 9 rfl fun K hK=>?_;go_simp;refine(yx cK _ (yx B2') a3 c3 hc3.1 hc3.2 (yx D2'') hf2).mono ?_;rintro e w3 ⟨⟨a2,c2,rfl,hC⟩,hx⟩;dsimp only at hC;have C5:=yz (hC.low (B':=w.heap.size+1+1+1) (by omega));have R5:=an R2' hx;have A5:=an A2' hx;have K5:=an K2' hx;have B5:=aA B2' hx;clear hx hC R2' B2' A2' K2' cK D2'';refine hK.out _ _ ⟨(yx A5).cell 0 _ rfl,(yx A5).cell 1 _ rfl,(yx A5).cell 2 _ rfl,(yx A5).cell 3 _ rfl,(yx A5).cell 4 _ rfl,(yx A5).cell 5 _ rfl,(yx A5).cell 6 _ rfl,(yx A5).cell 7 _ rfl,(yx A5).cell 8 _ rfl,(yx K5).cell 6 _ rfl,(yx K5).cell 7 _ rfl,(yx K5).cell 8 _ rfl,(yx K5).cell 9 _ rfl,(yx K5).cell 10 _ rfl⟩ (fun hHeld3=>?_);clear hK K hHeld2;refine ae 10 rfl fun K hK=>?_;have r0:=dP (yx R5);have e0:=eB (yx R5);go_simp;clear r0 e0;have A6:=yz (iF (yx A5) (show w.heap.size≠w.heap.size+1+1 by omega) (.slice a2 L2.length c2) (J Z lim2) (J Z mode2) (J Z A2) (J Z B2) (J Z C2) (J Z D2) (J Z coast2) (J Z fr2) (J Z code));have K6:=yz (iF (yx K5) (show w.heap.size+1≠w.heap.size+1+1 by omega) (.slice a2 L2.length c2) (J Z lim2) (J Z mode2) (J Z A2) (J Z B2) (J Z C2) (J Z D2) (J Z coast2) (J Z fr2) (J Z code));refine hK.out _ _ ⟨(yx A6).cell 0 _ rfl,(yx A6).cell 1 _ rfl,(yx A6).cell 2 _ rfl,(yx A6).cell 3 _ rfl,(yx A6).cell 4 _ rfl,(yx A6).cell 5 _ rfl,(yx A6).cell 6 _ rfl,(yx A6).cell 7 _ rfl,(yx A6).cell 8 _ rfl,(yx K6).cell 6 _ rfl,(yx K6).cell 7 _ rfl,(yx K6).cell 8 _ rfl,(yx K6).cell 9 _ rfl,(yx K6).cell 10 _ rfl⟩ (fun hHeld4=>?_);clear hK K hHeld3 A6 K6;refine wpAnyH_done (by kernel_rfl) ?_ _;clear hHeld4;go_wp2_with fail;refine bodyPost_ret (v:=.agg #[.slice a2 L2.length c2,J Z lim2,J Z mode2,J Z A2,J Z B2,J Z C2,J Z D2,J Z coast2,J Z fr2,J Z code]) ?_ rfl ⟨?_,?_⟩
 ·exact qP _ _ (w.heap.size+1+1) _ lim2 mode2 A2 B2 C2 D2 coast2 fr2 code rfl (bw (aU (yx R5) rfl _ lim2 mode2 A2 B2 C2 D2 coast2 fr2 code))
 ·refine⟨a2,c2,rfl,?_⟩;refine ay.low (B:=w.heap.size+1+1+1) ?_ (by omega);iterate 10 (refine ay.far ?_ (Nat.lt_succ_self (w.heap.size+1+1)) _ _)
  exact yx C5
 ·iterate 10 (refine aB ?_ (show w.heap.size≤w.heap.size+1+1 by omega) _ _)
  exact yx B5
theorem yp(kind:Int)(L:List St)(lim mode A B C D coast fr:Int)(ad:Option Addr)(c:Nat)(S:List D3)(g1 g2 g3 g4 wd ht lv fo:Int)(px:ByteArray)(br:Option Addr)(dr:Nat)(w:World)(hn:L.length≤1048576)(hS:aH w ad L L.length)(hb:∀y,ad=some y→y.block<w.heap.size)(hn2:S.length≤1048576)(hdr:S.length≤dr)(hd9:dr≤9223372036854775807)(hD:bi w br S S.length)(hB:∀y,br=some y→y.block<w.heap.size)(hc:bu ⟨kind,g1,g2,g3,g4,S,wd,ht,px,lv,fo⟩=true)(hs:px.size≤maxLen):
  Calls Tryz.prog 29 #[.agg #[.slice ad L.length c,J Z lim,J Z mode,J Z A,J Z B,J Z C,J Z D,J Z coast,J Z fr],.agg #[J Z kind,J Z g1,J Z g2,J Z g3,J Z g4,.slice br S.length dr,J Z wd,J Z ht,.string px,J Z lv,J Z fo]] w fun e w'=>jx w' w.heap.size (eS ⟨L,lim,mode,A,B,C,D,coast,fr⟩ ⟨kind,g1,g2,g3,g4,S,wd,ht,px,lv,fo⟩) (fm ⟨L,lim,mode,A,B,C,D,coast,fr⟩ ⟨kind,g1,g2,g3,g4,S,wd,ht,px,lv,fo⟩) e∧Below w.heap.size w w':=by
 rcases sH hc with hk | hk | hk | hk
 ·obtain rfl:kind=1:=hk;exact Dm L lim mode A B C D coast fr ad c S g1 g2 g3 g4 wd ht lv fo px br dr w hn hS hb hn2 hdr hd9 hD hB hc hs
 ·obtain rfl:kind=2:=hk;exact Dn L lim mode A B C D coast fr ad c S g1 g2 g3 g4 wd ht lv fo px br dr w hn hS hb hn2 hdr hd9 hD hB hc hs
 ·obtain rfl:kind=3:=hk;exact Do L lim mode A B C D coast fr ad c S g1 g2 g3 g4 wd ht lv fo px br dr w hn hS hb hn2 hdr hd9 hD hB hc hs
 ·obtain rfl:kind=4:=hk;exact Dp L lim mode A B C D coast fr ad c S g1 g2 g3 g4 wd ht lv fo px br dr w hn hS hb hn2 hdr hd9 hD hB hc hs
end
section
open Go.Value renaming int → J
open Go.IntKind renaming i64 → Z
open Go.RowKit Go.Sort
def GA(t:Tk):ByteArray:=aS t.mode ++ aS t.A ++ aS t.B ++ aS t.C ++ aS t.D ++ aS t.coast ++ aS t.fr
def gt(t:Tk):ByteArray:=if aZ t=true then bF (GA t) else ⟨#[]⟩
theorem AP(t:Tk):bB [t.mode,t.A,t.B,t.C,t.D,t.coast,t.fr] 7=GA t:=by
 unfold GA;simp only[bB,List.getD_cons_zero,List.getD_cons_succ];have e:(⟨#[]⟩:ByteArray) ++ aS t.mode=aS t.mode:=ByteArray.empty_append;rw[e]
theorem oi{t:Tk}(h:aZ t=true):(0≤t.mode∧t.mode≤2)∧((-5≤t.A∧t.A≤5)∧(-5≤t.B∧t.B≤5)∧(-5≤t.C∧t.C≤5)∧(-5≤t.D∧t.D≤5))∧(0≤t.coast∧t.coast≤5)∧(0≤t.fr∧t.fr≤1000000):=by
 unfold aZ rJ at h;simp only[Bool.and_eq_true]at h;obtain⟨⟨⟨hs,hl⟩,hf⟩,hm⟩:=h;rw[jW]at hl hf;have hT:∀ {a b c d:Int},aE a b c d=true→(-5≤a∧a≤5)∧(-5≤b∧b≤5)∧(-5≤c∧c≤5)∧(-5≤d∧d≤5):=fun h=>dx.1 (du.1 h).1;unfold jM at hm;split at hm
 ·rename_i h0
  simp only[Bool.and_eq_true,eqT,decide_eq_true_eq]at hm;refine⟨by omega,?_,by omega,hf⟩;obtain⟨⟨e1,e2,e3,e4⟩,_⟩:=hm;refine⟨?_,?_,?_,?_⟩<;>omega
 ·split at hm
  ·simp only[Bool.and_eq_true,decide_eq_true_eq]at hm;exact⟨by omega,hT hm.1,by omega,hf⟩
  ·split at hm
   ·simp only[Bool.and_eq_true,jW]at hm;exact⟨by omega,hT hm.1,by omega,hf⟩
   ·cases hm
theorem wk(L:List St)(lim mode A B C D coast fr:Int)(a:Option Addr)(c:Nat)(p:Addr)(w:World)(hn:L.length≤1048576)(hcap:L.length≤c)(hc9:c≤9223372036854775807)(hS:aH w a L L.length)(hE:bm p w):
  Calls Tryz.prog 52 #[.agg #[.slice a L.length c,J Z lim,J Z mode,J Z A,J Z B,J Z C,J Z D,J Z coast,J Z fr]] w fun e w'=>e=.returned (.string (gt ⟨L,lim,mode,A,B,C,D,coast,fr⟩))∧Below w.heap.size w w':=by
 have B0:=yz (ak w (.cells #[.slice a L.length c,J Z lim,J Z mode,J Z A,J Z B,J Z C,J Z D,J Z coast,J Z fr] 37));have T0:=yz (bL w (.slice a L.length c) lim mode A B C D coast fr 37);have cR:=yz (fP L lim mode A B C D coast fr a c p (w.alloc (.cells #[.slice a L.length c,J Z lim,J Z mode,J Z A,J Z B,J Z C,J Z D,J Z coast,J Z fr] 37)) hn hcap hc9 (hS.kept (yx B0)) (hE.kept (yx B0)));clear hS hE;go_enter Tryz.func52,Tryz.ntmps52;go_wp2_with fail;refine(yx cR).mono ?_;rintro e w1 ⟨rfl,hx⟩;have B1:=aA B0 hx;have T1:=an T0 hx;clear hx B0 T0 cR;cases hk:aZ ⟨L,lim,mode,A,B,C,D,coast,fr⟩
 ·have HO:Hid (gt ⟨L,lim,mode,A,B,C,D,coast,fr⟩=⟨#[]⟩):=yz (by unfold gt;rw[hk];rfl);clear hk;go_wp2_with fail;go_ret;exact⟨by rw[yx HO];rfl,yx B1⟩
 have HO:Hid (gt ⟨L,lim,mode,A,B,C,D,coast,fr⟩=bF (bB [mode,A,B,C,D,coast,fr] 7)):=yz (by unfold gt;rw[hk];exact congrArg bF (AP ⟨L,lim,mode,A,B,C,D,coast,fr⟩).symm);have hbd:=oi hk;dsimp only at hbd;clear hk;have HN:Hid (IW (w1.alloc (.cells #[J Z mode,J Z A,J Z B,J Z C,J Z D,J Z coast,J Z fr] 2)) (some ⟨w1.heap.size,0,none⟩) [mode,A,B,C,D,coast,fr]):=yz (Fs w1 [mode,A,B,C,D,coast,fr] 2);have B2:=yz (aj (yx B1) (ak w1 (.cells #[J Z mode,J Z A,J Z B,J Z C,J Z D,J Z coast,J Z fr] 2)))
 have cN:=yz (qq [mode,A,B,C,D,coast,fr] (some ⟨w1.heap.size,0,none⟩) 7 _ (by simp) (fun i hi=>by
  have hi':i<7:=hi;have hc:i=0∨i=1∨i=2∨i=3∨i=4∨i=5∨i=6:=by omega
  unfold okI
  rcases hc with rfl | rfl | rfl | rfl | rfl | rfl | rfl<;>simp only[List.getD_cons_zero,List.getD_cons_succ]<;>omega) (yx HN))
 have hz:=jo [mode,A,B,C,D,coast,fr] 7;have e7:[mode,A,B,C,D,coast,fr].length=7:=rfl;rw[e7]at cN;generalize bB [mode,A,B,C,D,coast,fr] 7=tx at *;clear hbd HN e7;obtain⟨q0,q1,q2,q3,q4,q5,q6,q7,q8⟩:=yx T1;go_wp2_with fail;clear q0 q1 q2 q3 q4 q5 q6 q7 q8;refine(yx cN).mono ?_;rintro e w2 ⟨rfl,hx⟩;have B3:=aA B2 hx;clear hx B2 cN T1;go_wp2_with fail;refine(kt tx _ (by omega)).mono ?_;rintro e w3 ⟨rfl,hx⟩;have B4:=aA B3 hx;clear hx B3;go_wp2_with fail;go_ret;exact⟨by rw[yx HO];rfl,yx B4⟩
theorem xj(L:List St)(lim mode A B C D coast fr:Int)(a:Option Addr)(c:Nat)(w:World)(hn:L.length≤1048576)(hS:aH w a L L.length):
  Calls Tryz.prog 47 #[.agg #[.slice a L.length c,J Z lim,J Z mode,J Z A,J Z B,J Z C,J Z D,J Z coast,J Z fr]] w fun e w'=>e=.returned (.string (gt ⟨L,lim,mode,A,B,C,D,coast,fr⟩))∧Below w.heap.size w w':=by
 have B0:=yz (ak w (.cells #[.slice a L.length c,J Z lim,J Z mode,J Z A,J Z B,J Z C,J Z D,J Z coast,J Z fr] 37));have T0:=yz (bL w (.slice a L.length c) lim mode A B C D coast fr 37);have cR:=yz (fR L lim mode A B C D coast fr a c (w.alloc (.cells #[.slice a L.length c,J Z lim,J Z mode,J Z A,J Z B,J Z C,J Z D,J Z coast,J Z fr] 37)) hn (hS.kept (yx B0)));clear hS;go_enter Tryz.func47,Tryz.ntmps47;go_wp2_with fail;refine(yx cR).mono ?_;rintro e w1 ⟨rfl,hx⟩;have B1:=aA B0 hx;have T1:=an T0 hx;clear hx B0 T0 cR;cases hk:aZ ⟨L,lim,mode,A,B,C,D,coast,fr⟩
 ·have HO:Hid (gt ⟨L,lim,mode,A,B,C,D,coast,fr⟩=⟨#[]⟩):=yz (by unfold gt;rw[hk];rfl);clear hk;go_wp2_with fail;go_ret;exact⟨by rw[yx HO];rfl,yx B1⟩
 have HO:Hid (gt ⟨L,lim,mode,A,B,C,D,coast,fr⟩=bF (aS mode ++ aS A ++ aS B ++ aS C ++ aS D ++ aS coast ++ aS fr)):=yz (by unfold gt;rw[hk];rfl);have hbd:=oi hk;dsimp only at hbd;clear hk;have n1:=yz (fun W=>aJ mode W (by omega) (by omega));have n2:=yz (fun W=>aJ A W (by omega) (by omega));have n3:=yz (fun W=>aJ B W (by omega) (by omega));have n4:=yz (fun W=>aJ C W (by omega) (by omega));have n5:=yz (fun W=>aJ D W (by omega) (by omega));have n6:=yz (fun W=>aJ coast W (by omega) (by omega));have n7:=yz (fun W=>aJ fr W (by omega) (by omega));have z1:=(aX mode).2;have z2:=(aX A).2;have z3:=(aX B).2;have z4:=(aX C).2;have z5:=(aX D).2;have z6:=(aX coast).2;have z7:=(aX fr).2;generalize aS mode=m1 at *;generalize aS A=m2 at *;generalize aS B=m3 at *;generalize aS C=m4 at *;generalize aS D=m5 at *;generalize aS coast=m6 at *;generalize aS fr=m7 at *;have y2:¬m1.size+m2.size>9223372036854775807:=by omega
 have y3:¬m1.size+m2.size+m3.size>9223372036854775807:=by omega
 have y4:¬m1.size+m2.size+m3.size+m4.size>9223372036854775807:=by omega
 have y5:¬m1.size+m2.size+m3.size+m4.size+m5.size>9223372036854775807:=by omega
 have y6:¬m1.size+m2.size+m3.size+m4.size+m5.size+m6.size>9223372036854775807:=by omega
 have y7:¬m1.size+m2.size+m3.size+m4.size+m5.size+m6.size+m7.size>9223372036854775807:=by omega
 have cL:=yz (fun W=>fE (m1 ++ m2 ++ m3 ++ m4 ++ m5 ++ m6 ++ m7) W (by simp only[ByteArray.size_append];omega));generalize bF (m1 ++ m2 ++ m3 ++ m4 ++ m5 ++ m6 ++ m7)=sx at *;clear hbd z1 z2 z3 z4 z5 z6 z7;obtain⟨q0,q1,q2,q3,q4,q5,q6,q7,q8⟩:=yx T1;have r2:=cell_regrown q2;have r3:=cell_regrown q3;have r4:=cell_regrown q4;have r5:=cell_regrown q5;have r6:=cell_regrown q6;have r7:=cell_regrown q7;have r8:=cell_regrown q8;clear q0 q1 q2 q3 q4 q5 q6 q7 q8 T1;go_wp2_with fail;refine bQ ?_;repeat (go_big_quiet_step (with_reducible first | exact aC n1 | exact aC n2 | exact aC n3 | exact aC n4 | exact aC n5 | exact aC n6 | exact aC n7 | exact aC cL))
 refine bW fun dq osq=>?_;have hx:=aj (yx B1) (below_regrown w1 dq osq);generalize grow (redrawn w1 dq) osq=W2 at hx ⊢;have HB2:=yz hx;clear hx r2 r3 r4 r5 r6 r7 r8 n1 n2 n3 n4 n5 n6 n7 B1;go_wp2_with fail;go_ret;exact⟨by rw[yx HO];rfl,yx HB2⟩
end
section
open Go.RowKit Go.Sort
theorem mS(t:Tk)(c:Cm)(h:t.L.length≤1048576):(eS t c).L.length≤1048576:=by
 unfold eS;split
 ·split
  ·unfold fL;split;exact h;exact Nat.zero_le _
  ·split
   ·unfold iu;split;rw[zy];exact h;exact Nat.zero_le _
   ·split
    ·exact uS _ _ h
    ·exact uS _ _ h
 ·exact Nat.zero_le _
def ig(s:ByteArray)(t:Tk)(q:Nat):Option (Tk×Nat):=
 match eH s q with
 | none=>none
 | some (x,q2)=>if ej x=0∧fm t (gN x)=0 then some (eS t (gN x),q2) else none
def gK(s:ByteArray):Nat→Tk→Nat→List ByteArray→Tk×Nat×List ByteArray
 | 0,t,q,T=>(t,q,T)
 | n+1,t,q,T=>match ig s t q with
  | none=>(t,q,T)
  | some (t2,q2)=>gK s n t2 q2 (T ++ [gt t2])
def kK(s:ByteArray)(t:Tk):(Tk×Nat×List ByteArray)×Int:=
 if 8000<s.size then ((eh,0,[]),2) else if aZ t=true then (gK s 400 t 0 [],0) else ((eh,0,[]),1)
variable {s x:ByteArray} {q q2:Nat}
theorem jL{t:Tk}(h:ig s t q=none)(n:Nat)(T:List ByteArray):gK s n t q T=(t,q,T):=by
 cases n
 ·rfl
 ·unfold gK;rw[h]
theorem BR{t t2:Tk}(h:ig s t q=some (t2,q2))(n:Nat)(T:List ByteArray):gK s (n+1) t q T=gK s n t2 q2 (T ++ [gt t2]):=by rw[gK,h]
theorem xm{t:Tk}(h:eH s q=none):ig s t q=none:=by unfold ig;rw[h]
theorem ma(h:eH s q=some (x,q2)):q2≤s.size∧x.size≤s.size∧q<s.size:=by
 unfold eH at h;cases hr:bR s (q:Int) with
 | error c=>rw[hr]at h;cases h
 | ok y=>
  rw[hr]at h;obtain rfl:=Option.some.inj h;unfold bR at hr;cases hn:co s (q:Int) with
  | error c=>rw[hn]at hr;cases hr
  | ok z=>
   rw[hn]at hr;have hz:=mV hn
   have hq:q<s.size:=by
    have e:co s (q:Int)=de s q 10 0 0:=by unfold co;rw[if_neg (by omega)];rfl
    rw[e,de]at hn;split at hn
    ·cases hn
    ·omega
   dsimp only at hr;split at hr
   ·cases hr
   ·split at hr
    ·cases hr
    ·have:=Except.ok.inj hr;obtain⟨rfl,rfl⟩:=Prod.mk.inj this;refine⟨by omega,?_,hq⟩;rw[ByteArray.size_extract];omega
theorem xM(h:ej x=0):bu (gN x)=true∧(gN x).px.size≤maxLen:=by
 have hc:bu (gN x)=true:=by
  unfold ej at h;unfold gN;split at h
  ·rename_i hu
   rw[if_pos hu];split at h
   ·omega
   ·rename_i c q e
    split at h
    ·rename_i h2
     try rw[e]
     try dsimp only
     rw[if_pos h2];exact h2.2
    ·omega
  ·rename_i hu;exact absurd h hu
 refine⟨hc,?_⟩;generalize gN x=c at *;have h0:∀p:ByteArray,p.toList=[]→p.size≤maxLen:=fun p e=>by rw[ly e];exact Nat.zero_le _
 have hb:hU c=true→c.px.size≤maxLen:=fun hb=>by
  unfold hU fr0 at hb;simp only[Bool.and_eq_true,decide_eq_true_eq]at hb;exact h0 _ hb.1.1.2
 rcases sH hc with hk | hk | hk | hk
 ·rw[BB hk]at hc;simp only[Bool.and_eq_true]at hc;exact hb hc.2
 ·rw[up hk]at hc;simp only[Bool.and_eq_true]at hc;exact hb hc.2
 ·rw[uq hk]at hc;simp only[Bool.and_eq_true]at hc;exact hb hc.2
 ·rw[pr hk]at hc;simp only[Bool.and_eq_true]at hc;obtain⟨f1,f2,f3,f4,f5⟩:=gO.1 hc.1.1.2;have h1:c.wd*c.ht≤16*12:=Int.mul_le_mul f2 f4 (by omega) (by omega);exact Nat.le_trans (show c.px.size≤192 by omega) (by decide +kernel)
end
end Go.Proofs.YteoonaanoenjiaaGreatDoor
