/- Several texts in one: LkA, Draw3. -/
import Derived.Test.YtdchjcadhlkpfaaGreatDoorD26
import Derived.Test.YtdchjcadhlkpfaaGreatDoorD27
namespace Go.Proofs.YtdchjcadhlkpfaaGreatDoor
set_option linter.unusedVariables false
set_option linter.unusedSimpArgs false
set_option maxRecDepth 100000
set_option maxHeartbeats 8000000
section
open Go.Value renaming int → J
open Go.IntKind renaming i64 → Z
open Go.RowKit Go.Sort
def vL(t:Tk)(p q r s:Int):Tk:={ t with mode:=1,A:=p,B:=q,C:=r,D:=s,coast:=0 }
def bt(t:Tk):Tk:=if t.mode=0 then t else if t.lim<t.coast+1 then qY t else { t with mode:=2,coast:=t.coast+1 }
theorem nJ(T:Array Value)(X:World)(b:Nat)(v:Value)(lim mode A B C D coast fr:Int)(hT:T.getD 2 undef=.pointer (some ⟨b,0,none⟩))(h:eu X b v lim mode A B C D coast fr):(results Tryz.f177 T).run Tryz.prog X=.ok (.agg #[v,J Z lim,J Z mode,J Z A,J Z B,J Z C,J Z D,J Z coast,J Z fr]) X:=by
 obtain⟨h0,h1,h2,h3,h4,h5,h6,h7,h8⟩:=h;simp only[Array.getD_eq_getD_getElem?]at hT;simp[results,Tryz.results177,go_sem,hT,h0,h1,h2,h3,h4,h5,h6,h7,h8]
theorem kp(lim mode A B C D coast fr p q r s:Int)(a:Option Addr)(n c:Nat)(w:World):
  Calls Tryz.prog 175 #[.agg #[.slice a n c,J Z lim,J Z mode,J Z A,J Z B,J Z C,J Z D,J Z coast,J Z fr],.agg #[J Z p,J Z q,J Z r,J Z s]] w fun e w'=>e=.returned (.agg #[.slice a n c,J Z lim,J Z 1,J Z p,J Z q,J Z r,J Z s,J Z 0,J Z fr])∧Below w.heap.size w w':=by
 go_enter Tryz.func175,Tryz.ntmps175;go_wp2_with fail;go_region
 go_wp2;exact bodyPost_ret (v:=.agg #[.slice a n c,J Z lim,J Z 1,J Z p,J Z q,J Z r,J Z s,J Z 0,J Z fr]) (by simp[results,Tryz.results175,go_sem]) rfl ⟨rfl,(eC _ _ _ _).drew⟩
theorem kf(lim mode A B C D coast fr p q r s:Int)(a:Option Addr)(n c:Nat)(w:World):
  Calls Tryz.prog 100 #[.agg #[.slice a n c,J Z lim,J Z mode,J Z A,J Z B,J Z C,J Z D,J Z coast,J Z fr],.agg #[J Z p,J Z q,J Z r,J Z s]] w fun e w'=>e=.returned (.agg #[.slice a n c,J Z lim,J Z 1,J Z p,J Z q,J Z r,J Z s,J Z 0,J Z fr,J Z 0])∧Below w.heap.size w w':=by
 go_enter Tryz.func100,Tryz.ntmps100;go_wp2;exact bodyPost_ret (v:=.agg #[.slice a n c,J Z lim,J Z 1,J Z p,J Z q,J Z r,J Z s,J Z 0,J Z fr,J Z 0]) (by simp[results,Tryz.results100,go_sem]) rfl ⟨rfl,eC _ _ _ _⟩
theorem vP(L:List St)(lim mode A B C D coast fr:Int)(a:Option Addr)(n c:Nat)(w:World)(hm:mode=0∨mode=1∨mode=2)(hc0:0≤coast)(hc5:coast≤1000):
  Calls Tryz.prog 177 #[.agg #[.slice a n c,J Z lim,J Z mode,J Z A,J Z B,J Z C,J Z D,J Z coast,J Z fr]] w fun e w'=>e=.returned (tkV a n c (bt ⟨L,lim,mode,A,B,C,D,coast,fr⟩))∧Below w.heap.size w w':=by
 have hw:wrap64 (coast+1)=coast+1:=au (by omega) (by omega);rcases hm with rfl | rfl | rfl
 ·have HO:Hid (tkV a n c (bt ⟨L,lim,0,A,B,C,D,coast,fr⟩)=.agg #[.slice a n c,J Z lim,J Z 0,J Z A,J Z B,J Z C,J Z D,J Z coast,J Z fr]):=yz (by unfold bt tkV;rw[if_pos rfl]);go_enter Tryz.func177,Tryz.ntmps177;go_wp2;rw[yy HO];exact bodyPost_ret (v:=.agg #[.slice a n c,J Z lim,J Z 0,J Z A,J Z B,J Z C,J Z D,J Z coast,J Z fr]) (by simp[results,Tryz.results177,go_sem]) rfl ⟨rfl,aX _ _ _⟩
 ·by_cases hl:lim<coast+1
  ·have HO:Hid (tkV a n c (bt ⟨L,lim,1,A,B,C,D,coast,fr⟩)=.agg #[.slice a n c,J Z lim,J Z 0,J Z 0,J Z 0,J Z 0,J Z 0,J Z 0,J Z fr]):=yz (by unfold bt tkV;rw[if_neg (by show ¬(1:Int)=0;omega),if_pos hl];rfl);have B0:=yz (aX w (.cells #[.slice a n c,J Z lim,J Z 2,J Z A,J Z B,J Z C,J Z D,J Z (coast+1),J Z fr] 130) (.cells #[.slice none 0 0,J Z 0,J Z 0,J Z 0,J Z 0,J Z 0,J Z 0,J Z 0,J Z 0] 130));have R0:=yz (by simpa using aq (w.alloc (.cells #[.slice a n c,J Z lim,J Z 2,J Z A,J Z B,J Z C,J Z D,J Z (coast+1),J Z fr] 130)) [.slice none 0 0,J Z 0,J Z 0,J Z 0,J Z 0,J Z 0,J Z 0,J Z 0,J Z 0] 130:Blk ((w.alloc (.cells #[.slice a n c,J Z lim,J Z 2,J Z A,J Z B,J Z C,J Z D,J Z (coast+1),J Z fr] 130)).alloc (.cells #[.slice none 0 0,J Z 0,J Z 0,J Z 0,J Z 0,J Z 0,J Z 0,J Z 0,J Z 0] 130)) (w.heap.size+1) [.slice none 0 0,J Z 0,J Z 0,J Z 0,J Z 0,J Z 0,J Z 0,J Z 0,J Z 0] 130);go_enter Tryz.func177,Tryz.ntmps177;go_wp2_with fail;refine(lM lim 2 A B C D (coast+1) fr a n c _).mono ?_;rintro e w1 ⟨rfl,hx⟩;have B1:=ax B0 hx;have R1:=ap R0 hx;clear hx B0 R0;obtain⟨r0,r1,r2,r3,r4,r5,r6,r7,r8⟩:=fR (yy R1);have g0:=md (yy R1);go_wp2_with fail;rw[yy HO];refine bodyPost_ret (v:=.agg #[.slice a n c,J Z lim,J Z 0,J Z 0,J Z 0,J Z 0,J Z 0,J Z 0,J Z fr]) ?_ rfl ⟨rfl,?_⟩
   ·exact nJ _ _ (w.heap.size+1) _ lim 0 0 0 0 0 0 fr rfl (eo (u:=.slice none 0 0) ⟨r0,r1,r2,r3,r4,r5,r6,r7,r8⟩ _ lim 0 0 0 0 0 0 fr)
   ·iterate 9 (refine aG ?_ (show w.heap.size≤w.heap.size+1 by omega) _ _)
    exact yy B1
  ·have HO:Hid (tkV a n c (bt ⟨L,lim,1,A,B,C,D,coast,fr⟩)=.agg #[.slice a n c,J Z lim,J Z 2,J Z A,J Z B,J Z C,J Z D,J Z (coast+1),J Z fr]):=yz (by unfold bt tkV;rw[if_neg (by show ¬(1:Int)=0;omega),if_neg hl]);go_enter Tryz.func177,Tryz.ntmps177;go_wp2;rw[yy HO];exact bodyPost_ret (v:=.agg #[.slice a n c,J Z lim,J Z 2,J Z A,J Z B,J Z C,J Z D,J Z (coast+1),J Z fr]) (by simp[results,Tryz.results177,go_sem]) rfl ⟨rfl,aX _ _ _⟩
 ·by_cases hl:lim<coast+1
  ·have HO:Hid (tkV a n c (bt ⟨L,lim,2,A,B,C,D,coast,fr⟩)=.agg #[.slice a n c,J Z lim,J Z 0,J Z 0,J Z 0,J Z 0,J Z 0,J Z 0,J Z fr]):=yz (by unfold bt tkV;rw[if_neg (by show ¬(2:Int)=0;omega),if_pos hl];rfl);have B0:=yz (aX w (.cells #[.slice a n c,J Z lim,J Z 2,J Z A,J Z B,J Z C,J Z D,J Z (coast+1),J Z fr] 130) (.cells #[.slice none 0 0,J Z 0,J Z 0,J Z 0,J Z 0,J Z 0,J Z 0,J Z 0,J Z 0] 130));have R0:=yz (by simpa using aq (w.alloc (.cells #[.slice a n c,J Z lim,J Z 2,J Z A,J Z B,J Z C,J Z D,J Z (coast+1),J Z fr] 130)) [.slice none 0 0,J Z 0,J Z 0,J Z 0,J Z 0,J Z 0,J Z 0,J Z 0,J Z 0] 130:Blk ((w.alloc (.cells #[.slice a n c,J Z lim,J Z 2,J Z A,J Z B,J Z C,J Z D,J Z (coast+1),J Z fr] 130)).alloc (.cells #[.slice none 0 0,J Z 0,J Z 0,J Z 0,J Z 0,J Z 0,J Z 0,J Z 0,J Z 0] 130)) (w.heap.size+1) [.slice none 0 0,J Z 0,J Z 0,J Z 0,J Z 0,J Z 0,J Z 0,J Z 0,J Z 0] 130);go_enter Tryz.func177,Tryz.ntmps177;go_wp2_with fail;refine(lM lim 2 A B C D (coast+1) fr a n c _).mono ?_;rintro e w1 ⟨rfl,hx⟩;have B1:=ax B0 hx;have R1:=ap R0 hx;clear hx B0 R0;obtain⟨r0,r1,r2,r3,r4,r5,r6,r7,r8⟩:=fR (yy R1);have g0:=md (yy R1);go_wp2_with fail;rw[yy HO];refine bodyPost_ret (v:=.agg #[.slice a n c,J Z lim,J Z 0,J Z 0,J Z 0,J Z 0,J Z 0,J Z 0,J Z fr]) ?_ rfl ⟨rfl,?_⟩
   ·exact nJ _ _ (w.heap.size+1) _ lim 0 0 0 0 0 0 fr rfl (eo (u:=.slice none 0 0) ⟨r0,r1,r2,r3,r4,r5,r6,r7,r8⟩ _ lim 0 0 0 0 0 0 fr)
   ·iterate 9 (refine aG ?_ (show w.heap.size≤w.heap.size+1 by omega) _ _)
    exact yy B1
  ·have HO:Hid (tkV a n c (bt ⟨L,lim,2,A,B,C,D,coast,fr⟩)=.agg #[.slice a n c,J Z lim,J Z 2,J Z A,J Z B,J Z C,J Z D,J Z (coast+1),J Z fr]):=yz (by unfold bt tkV;rw[if_neg (by show ¬(2:Int)=0;omega),if_neg hl]);go_enter Tryz.func177,Tryz.ntmps177;go_wp2;rw[yy HO];exact bodyPost_ret (v:=.agg #[.slice a n c,J Z lim,J Z 2,J Z A,J Z B,J Z C,J Z D,J Z (coast+1),J Z fr]) (by simp[results,Tryz.results177,go_sem]) rfl ⟨rfl,aX _ _ _⟩
end
section
open Go.RowKit
variable {w w':World}
theorem aE{a:World}{row:Option Nat}(h:a.grownBy w row){p:Addr}(hp:a.heap.size≤p.block)(v:Value):a.grownBy (w.setCell p v) row:=
 ⟨h.os,h.tape,h.output,by have:=h.size;simpa[World.setCell] using this,fun i hi hn=>(Below.heap_setCell w p v i (by omega)).trans (h.block i hi hn)⟩
theorem bn.set{b:Nat}(h:bn b w){p:Addr}(hp:b<p.block)(v:Value):bn b (w.setCell p v):=
 h.kept (row:=some p.block) ⟨rfl,rfl,rfl,by simp[World.setCell],fun i hi hn=>Below.heap_setCell w p v i (fun e=>hn (by rw[e]))⟩ (fun k e=>by have:=Option.some.inj e;omega)
theorem aK.grown{b c:Nat}{x y z:Int}(h:aK w b x y z)(hg:w.grownBy w' (some c))(hne:b≠c):aK w' b x y z:=by
 obtain⟨h0,h1,h2⟩:=h;have hn:∀i,some (⟨b,i,none⟩:Addr).block≠some c:=fun i e=>hne (Option.some.inj e);exact⟨hg.cell h0 (hn 0),hg.cell h1 (hn 1),hg.cell h2 (hn 2)⟩
theorem eA.grown{b c:Nat}(h:eA w b)(hb:b<w.heap.size)(hg:w.grownBy w' (some c))(hne:b≠c):eA w' b:=by
 obtain⟨h0,h1,h2⟩:=h;have hf:∀i,w'.frozen? ⟨b,i,none⟩=w.frozen? ⟨b,i,none⟩:=fun i=>World.frozen?_of_block (hg.block b hb (fun e=>hne (Option.some.inj e)));exact⟨by rw[hf];exact h0,by rw[hf];exact h1,by rw[hf];exact h2⟩
theorem bn.allocs{b:Nat}(h:bn b w)(o:Obj):bn b (w.alloc o):=h.kept (World.grownBy_alloc w o none) (fun _ e=>by cases e)
end
end Go.Proofs.YtdchjcadhlkpfaaGreatDoor
