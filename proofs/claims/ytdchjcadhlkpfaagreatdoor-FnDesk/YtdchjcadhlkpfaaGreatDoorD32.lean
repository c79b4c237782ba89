/- Several texts in one: LkB. -/
import Derived.Test.YtdchjcadhlkpfaaGreatDoorD16
import Derived.Test.YtdchjcadhlkpfaaGreatDoorD31
import Derived.Test.YtdchjcadhlkpfaaGreatDoorD30
namespace Go.Proofs.YtdchjcadhlkpfaaGreatDoor
set_option linter.unusedVariables false
set_option linter.unusedSimpArgs false
set_option maxRecDepth 100000
set_option maxHeartbeats 8000000
section
open Go.Value renaming int → J
open Go.IntKind renaming i64 → Y
open Go.RowKit Go.Sort
def bh(L:List St)(S:List D3):T4×Int:=if bD L S=0 then jw L S (bl L S) else ((0,0,0,0),bD L S)
def dO(t:Tk)(S:List D3):Tk:=
 if t.mode≠0∧2≤aY (bQ t.L t.A t.B t.C t.D S) then vL { t with fr:=t.fr+1 } t.A t.B t.C t.D
 else if (bh t.L S).2=0 then vL { t with fr:=t.fr+1 } (bh t.L S).1.1 (bh t.L S).1.2.1 (bh t.L S).1.2.2.1 (bh t.L S).1.2.2.2
 else bt { t with fr:=t.fr+1 }
variable {e:Ending} {code:Int} {ids:List Int} {w':World}
theorem tP{w:World}{lo hi n:Nat}{v:Value}(hl:ids.length=n)(h:jt w 2 1 lo hi n v (fun j=>J Y (ids.getD j 0))):∃a k,v=.slice a n k∧hU w a ids n:=by
 rcases h with ⟨rfl,a,k,rfl⟩ | ⟨g,k,rfl,_,_,hr⟩
 ·exact⟨a,k,rfl,.inl rfl⟩
 ·exact⟨_,k,rfl,nw hr⟩
theorem wq(L:List St)(S:List D3)(ar br:Option Addr)(cr dr:Nat)(a b c d:Int)(p:Addr)(w:World)(hn:L.length≤1048576)(hcap:L.length≤cr)(hc9:cr≤9223372036854775807)(hn2:S.length≤1048576)(hcap2:S.length≤dr)(hd9:dr≤9223372036854775807)(hS:aZ w ar L L.length)(hD:dh w br S S.length)(hE:bE p w):
  Calls Tryz.prog 174 #[.agg #[.slice ar L.length cr],.agg #[J Y a,J Y b,J Y c,J Y d],.slice br S.length dr] w fun e w'=>e=.returned (J Y (aY (bQ L a b c d S):Int))∧Below w.heap.size w w':=by
 have B0:=yz (aX w (.cells #[.slice ar L.length cr] 128) (.cells #[J Y a,J Y b,J Y c,J Y d] 43));have cM:=yz (pF L S ar br cr dr a b c d p _ hn hcap hc9 hn2 hcap2 hd9 (hS.kept (yy B0)) (hD.kept (yy B0)) (hE.kept (yy B0)));have hl:=Bn L a b c d S;have HN:=yz (fun (W:World) (x:Option Addr) (k:Nat) h=>gl (bQ L a b c d S) x k W (by omega) h);clear hS hD hE;go_enter Tryz.func174,Tryz.ntmps174;go_wp2_with fail;refine(yy cM).mono ?_;rintro e w1 ⟨⟨v,rfl,hp⟩,hx⟩;obtain⟨x,k,rfl,hv⟩:=tP rfl hp;have B1:=ax B0 hx;have cN:=yz (yy HN w1 x k hv);generalize (bQ L a b c d S).length=m at *;clear hx hp hv B0 cM HN;go_wp2_with fail;refine(yy cN).mono ?_;rintro e w2 ⟨rfl,hw⟩;rw[hw];clear hw w2;go_wp2_with fail;go_ret;exact⟨rfl,yy B1⟩
theorem BA{B:Nat}{cnt:Int}(h:Ep w' B ids cnt code e):∃a k,e=.returned (.agg #[.slice a ids.length k,J Y cnt,J Y code])∧hU w' a ids ids.length:=by
 obtain⟨v,he,h⟩:=h;rcases h with ⟨h0,rfl⟩ | ⟨g,rfl,_,hr⟩
 ·exact⟨none,0,by rw[he,h0];rfl,.inl (by rw[h0];rfl)⟩
 ·exact⟨_,_,he,nw hr⟩
theorem tL{B:Nat}{cnt:Int}(h:Cj w' B ids cnt code e):∃a k,e=.returned (.agg #[.slice a ids.length k,J Y cnt,J Y code])∧hU w' a ids ids.length:=by
 obtain⟨a,k,he,hp⟩:=BJ h;obtain⟨x,y,hv,hN⟩:=tP (ids:=ids) rfl (show jt w' 2 1 B w'.heap.size ids.length (.slice a ids.length k) (fun j=>J Y (ids.getD j 0)) from hp);rw[hv]at he;exact⟨x,y,he,hN⟩
theorem rq(T:Array Value)(X:World)(b:Nat)(p q r s k:Int)(hT:T.getD 4 undef=.pointer (some ⟨b,0,none⟩))(h:Blk X b [J Y p,J Y q,J Y r,J Y s,J Y k] 108):(results Tryz.f176 T).run Tryz.prog X=.ok (.agg #[J Y p,J Y q,J Y r,J Y s,J Y k]) X:=by
 obtain⟨h0,h1,h2,h3,h4⟩:=mS (h);simp only[Array.getD_eq_getD_getElem?]at hT;simp[results,Tryz.results176,go_sem,hT,h0,h1,h2,h3,h4]
theorem yh(L:List St)(S:List D3)(ar br:Option Addr)(cr dr:Nat)(p:Addr)(w:World)(hn:L.length≤1048576)(hcap:L.length≤cr)(hc9:cr≤9223372036854775807)(hn2:S.length≤1048576)(hcap2:S.length≤dr)(hd9:dr≤9223372036854775807)(hS:aZ w ar L L.length)(hD:dh w br S S.length)(hA:∀y,ar=some y→y.block<w.heap.size)(hB:∀y,br=some y→y.block<w.heap.size)(hE:bE p w):
  Calls Tryz.prog 176 #[.agg #[.slice ar L.length cr],.slice br S.length dr] w fun e w'=>e=.returned (.agg #[J Y (bh L S).1.1,J Y (bh L S).1.2.1,J Y (bh L S).1.2.2.1,J Y (bh L S).1.2.2.2,J Y (bh L S).2])∧Below w.heap.size w w':=by
 have B0:=yz (aX w (.cells #[.slice ar L.length cr] 128) (.cells #[J Y 0,J Y 0,J Y 0,J Y 0,J Y 0] 108));have A0:=yz ((aq w [.slice ar L.length cr] 128).alloc (.cells #[J Y 0,J Y 0,J Y 0,J Y 0,J Y 0] 108));have R0:=yz (by simpa using aq (w.alloc (.cells #[.slice ar L.length cr] 128)) [J Y 0,J Y 0,J Y 0,J Y 0,J Y 0] 108:Blk ((w.alloc (.cells #[.slice ar L.length cr] 128)).alloc (.cells #[J Y 0,J Y 0,J Y 0,J Y 0,J Y 0] 108)) (w.heap.size+1) [J Y 0,J Y 0,J Y 0,J Y 0,J Y 0] 108);have hl0:=(yy B0).size;have cI:=yz (nk L S ar br cr dr p _ hn hn2 hcap hc9 hcap2 hd9 (hS.kept (yy B0)) (hD.kept (yy B0)) (fun y e=>Nat.lt_of_lt_of_le (hA y e) hl0) (fun y e=>Nat.lt_of_lt_of_le (hB y e) hl0) (hE.kept (yy B0)));have hid:=qM L S;have cF:=yz (fun (W:World) (x:Option Addr) (k:Nat) (h:Below w.heap.size w W) hN=>pG L S (bl L S) ar br x cr dr k p W hn hcap hc9 hn2 hcap2 hd9 (by omega) (hS.kept h) (hD.kept h) hN (hE.kept h));have hY:bD L S=0→Hid (bh L S=jw L S (bl L S)):=fun h=>yz (by unfold bh;rw[if_pos h]);have hN:bD L S≠0→Hid (bh L S=((0,0,0,0),bD L S)):=fun h=>yz (by unfold bh;rw[if_neg h]);clear hS hD hE hl0 hA hB;go_enter Tryz.func176,Tryz.ntmps176;go_wp2_with fail;refine(yy cI).mono ?_;rintro e w1 ⟨hO,hx⟩;obtain⟨x,k,rfl,hv⟩:=BA hO;generalize bD L S=kd at *;generalize ef L S=ct at *;have Z:=an w1 (.cells #[.slice x (bl L S).length k,J Y ct,J Y kd] 83);have B1:=ax (ax B0 hx) Z;have A1:=aQ A0 hx Z;have R1:=aQ R0 hx Z;have I1:=yz (aq w1 [.slice x (bl L S).length k,J Y ct,J Y kd] 83);have N1:=yz (hv.kept Z);clear hx hO hv Z B0 A0 R0 cI;by_cases h0:kd=0
 ·have HO:=hY h0;clear hY hN;have cF2:=yz (yy cF _ x k (yy B1) (yy N1));rw[←yy HO]at cF2;clear cF N1 HO;obtain⟨⟨⟨t1,t2,t3,t4⟩,tc⟩,htv⟩:∃z,bh L S=z:=⟨_,rfl⟩
  rw[htv]at cF2;have HTV:=yz htv;clear htv;have cF3:Hid (Calls Tryz.prog 191 #[.slice ar L.length cr,.slice br S.length dr,.slice x (bl L S).length k] (w1.alloc (.cells #[.slice x (bl L S).length k,J Y ct,J Y kd] 83)) fun e w'=>e=.returned (.agg #[J Y t1,J Y t2,J Y t3,J Y t4,J Y tc])∧Below (w1.alloc (.cells #[.slice x (bl L S).length k,J Y ct,J Y kd] 83)).heap.size (w1.alloc (.cells #[.slice x (bl L S).length k,J Y ct,J Y kd] 83)) w'):=cF2;clear cF2;generalize (bl L S).length=nI at *;have a0:=(yy A1).cell 0 _ rfl;have i0:=jN (yy I1);subst h0;go_wp2_with fail;clear a0 i0;refine(yy cF3).mono ?_;rintro e w2 ⟨rfl,hx⟩;have B2:=ax B1 hx;have R2:=ap R1 hx;clear hx;have r0:=mS (yy R2);have g0:=ul (yy R2);go_wp2_with fail;clear r0 g0;rw[yy HTV];refine bodyPost_ret (v:=.agg #[J Y t1,J Y t2,J Y t3,J Y t4,J Y tc]) ?_ rfl ⟨rfl,?_⟩
  ·exact rq _ _ (w.heap.size+1) _ _ _ _ _ rfl ((((((yy R2).set 0 _).set 1 _).set 2 _).set 3 _).set 4 _)
  ·iterate 5 (refine aG ?_ (show w.heap.size≤w.heap.size+1 by omega) _ _)
   exact yy B2
 ·have HO:=hN h0;clear hY hN cF;generalize (bl L S).length=nI at *;have i0:=jN (yy I1);have r0:=mS (yy R1);have g0:=ul (yy R1);go_wp2_with fail;clear r0 g0 i0;rw[yy HO];refine bodyPost_ret (v:=.agg #[J Y 0,J Y 0,J Y 0,J Y 0,J Y kd]) ?_ rfl ⟨rfl,?_⟩
  ·exact rq _ _ (w.heap.size+1) _ _ _ _ _ rfl ((((((yy R1).set 0 _).set 1 _).set 2 _).set 3 _).set 4 _)
  ·iterate 5 (refine aG ?_ (show w.heap.size≤w.heap.size+1 by omega) _ _)
   exact yy B1
theorem gv(T:Array Value)(X:World)(b:Nat)(v:Value)(lim mode A B C D coast fr:Int)(hT:T.getD 4 undef=.pointer (some ⟨b,0,none⟩))(h:eu X b v lim mode A B C D coast fr):(results Tryz.f161 T).run Tryz.prog X=.ok (.agg #[v,J Y lim,J Y mode,J Y A,J Y B,J Y C,J Y D,J Y coast,J Y fr]) X:=by
 obtain⟨h0,h1,h2,h3,h4,h5,h6,h7,h8⟩:=h;simp only[Array.getD_eq_getD_getElem?]at hT;simp[results,Tryz.results161,go_sem,hT,h0,h1,h2,h3,h4,h5,h6,h7,h8]
theorem lB(T:Array Value)(X:World)(b:Nat)(v:Value)(lim mode A B C D coast fr code:Int)(hT:T.getD 4 undef=.pointer (some ⟨b,0,none⟩))(h:TkO X b v lim mode A B C D coast fr code):(results Tryz.f136 T).run Tryz.prog X=.ok (.agg #[v,J Y lim,J Y mode,J Y A,J Y B,J Y C,J Y D,J Y coast,J Y fr,J Y code]) X:=by
 obtain⟨⟨h0,h1,h2,h3,h4,h5,h6,h7,h8⟩,h9⟩:=h;simp only[Array.getD_eq_getD_getElem?]at hT;simp[results,Tryz.results136,go_sem,hT,h0,h1,h2,h3,h4,h5,h6,h7,h8,h9]
end
end Go.Proofs.YtdchjcadhlkpfaaGreatDoor
