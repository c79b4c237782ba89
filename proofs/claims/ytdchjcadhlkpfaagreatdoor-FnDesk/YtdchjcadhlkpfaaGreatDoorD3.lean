/- Several texts in one: VecK, VecL, IdM, Bytes, DecT, DsM, DsA, DsG, RowF, FrB, FrC, RowV, SpA. -/
import Derived.Test.YtdchjcadhlkpfaaGreatDoorRows
import Derived.WalkSpells
import Derived.Lib.BufferWrite
import Derived.Lib.SlBytesRow
import Derived.Lib.ItoaMem
import Derived.Lib.ItoaNum
import Derived.Lib.Split
import Derived.Lib.SplitLaws
import Derived.Lib.IndexLaws
import Derived.Lib.IndexBytes
import Derived.Laws.BytesArg
import Derived.Test.YtdchjcadhlkpfaaGreatDoorD2
namespace Go.Proofs.YtdchjcadhlkpfaaGreatDoor
set_option linter.unusedVariables false
set_option linter.unusedSimpArgs false
set_option maxRecDepth 100000
set_option maxHeartbeats 8000000
section
open Go.Value renaming int → J
open Go.IntKind renaming i64 → Z
open Go.RowKit Go.Sort
theorem aK.in{w:World}{b:Nat}{x y z:Int}(h:aK w b x y z):b<w.heap.size:=World.block_lt_of_cell? w _ h.1
theorem ey(n:Int)(w:World):
  Calls Tryz.prog 130 #[J Z n] w fun e w'=>e=.returned (J Z (sgn n))∧w'=w:=by
 by_cases h:n<0
 ·have HS:=yz (show sgn n = -1 by unfold sgn;rw[if_pos h]);go_enter Tryz.func130,Tryz.ntmps130;go_wp2;go_ret;exact⟨by rw[yy HS];rfl,rfl⟩
 ·by_cases h2:0<n
  ·have HS:=yz (show sgn n=1 by unfold sgn;rw[if_neg h,if_pos h2]);go_enter Tryz.func130,Tryz.ntmps130;go_wp2;go_ret;exact⟨by rw[yy HS];rfl,rfl⟩
  ·have HS:=yz (show sgn n=0 by unfold sgn;rw[if_neg h,if_neg h2]);go_enter Tryz.func130,Tryz.ntmps130;go_wp2;go_ret;exact⟨by rw[yy HS];rfl,rfl⟩
theorem yS(a1 a2 a3 b1 b2 b3 c1 c2 c3 d1 d2 d3:Int)(w:World):
  Calls Tryz.prog 129 #[.agg #[J Z a1,J Z a2,J Z a3],.agg #[J Z b1,J Z b2,J Z b3],.agg #[J Z c1,J Z c2,J Z c3],.agg #[J Z d1,J Z d2,J Z d3]] w fun e w'=>e=.returned (J Z (qt (bG a1 a2 a3 b1 b2 b3) (bG c1 c2 c3 d1 d2 d3) (wrap64 (wrap64 (bG a1 a2 a3 b1 b2 b3*bG a1 a2 a3 b1 b2 b3)*wrap64 (bG c1 c2 c3 c1 c2 c3*bG d1 d2 d3 d1 d2 d3))) (wrap64 (wrap64 (bG c1 c2 c3 d1 d2 d3*bG c1 c2 c3 d1 d2 d3)*wrap64 (bG a1 a2 a3 a1 a2 a3*bG b1 b2 b3 b1 b2 b3)))))∧Below w.heap.size w w':=by
 go_enter Tryz.func129,Tryz.ntmps129;go_wp2_with fail;have va:aK ((((w.alloc (.cells #[J Z a1,J Z a2,J Z a3] 72)).alloc (.cells #[J Z b1,J Z b2,J Z b3] 72)).alloc (.cells #[J Z c1,J Z c2,J Z c3] 72)).alloc (.cells #[J Z d1,J Z d2,J Z d3] 72)) w.heap.size a1 a2 a3:=((((by simpa using aM w a1 a2 a3 72:aK (w.alloc (.cells #[J Z a1,J Z a2,J Z a3] 72)) w.heap.size a1 a2 a3).alloc (by simp<;>omega) _).alloc (by simp<;>omega) _).alloc (by simp<;>omega) _)
 have vb:aK ((((w.alloc (.cells #[J Z a1,J Z a2,J Z a3] 72)).alloc (.cells #[J Z b1,J Z b2,J Z b3] 72)).alloc (.cells #[J Z c1,J Z c2,J Z c3] 72)).alloc (.cells #[J Z d1,J Z d2,J Z d3] 72)) (w.heap.size+1) b1 b2 b3:=(((by simpa using aM (w.alloc (.cells #[J Z a1,J Z a2,J Z a3] 72)) b1 b2 b3 72:aK ((w.alloc (.cells #[J Z a1,J Z a2,J Z a3] 72)).alloc (.cells #[J Z b1,J Z b2,J Z b3] 72)) (w.heap.size+1) b1 b2 b3).alloc (by simp<;>omega) _).alloc (by simp<;>omega) _)
 have vc:aK ((((w.alloc (.cells #[J Z a1,J Z a2,J Z a3] 72)).alloc (.cells #[J Z b1,J Z b2,J Z b3] 72)).alloc (.cells #[J Z c1,J Z c2,J Z c3] 72)).alloc (.cells #[J Z d1,J Z d2,J Z d3] 72)) (w.heap.size+1+1) c1 c2 c3:=((by simpa using aM ((w.alloc (.cells #[J Z a1,J Z a2,J Z a3] 72)).alloc (.cells #[J Z b1,J Z b2,J Z b3] 72)) c1 c2 c3 72:aK (((w.alloc (.cells #[J Z a1,J Z a2,J Z a3] 72)).alloc (.cells #[J Z b1,J Z b2,J Z b3] 72)).alloc (.cells #[J Z c1,J Z c2,J Z c3] 72)) (w.heap.size+1+1) c1 c2 c3).alloc (by simp<;>omega) _)
 have vd:aK ((((w.alloc (.cells #[J Z a1,J Z a2,J Z a3] 72)).alloc (.cells #[J Z b1,J Z b2,J Z b3] 72)).alloc (.cells #[J Z c1,J Z c2,J Z c3] 72)).alloc (.cells #[J Z d1,J Z d2,J Z d3] 72)) (w.heap.size+1+1+1) d1 d2 d3:=(by simpa using aM (((w.alloc (.cells #[J Z a1,J Z a2,J Z a3] 72)).alloc (.cells #[J Z b1,J Z b2,J Z b3] 72)).alloc (.cells #[J Z c1,J Z c2,J Z c3] 72)) d1 d2 d3 72:aK ((((w.alloc (.cells #[J Z a1,J Z a2,J Z a3] 72)).alloc (.cells #[J Z b1,J Z b2,J Z b3] 72)).alloc (.cells #[J Z c1,J Z c2,J Z c3] 72)).alloc (.cells #[J Z d1,J Z d2,J Z d3] 72)) (w.heap.size+1+1+1) d1 d2 d3)
 have hB:Below w.heap.size w ((((w.alloc (.cells #[J Z a1,J Z a2,J Z a3] 72)).alloc (.cells #[J Z b1,J Z b2,J Z b3] 72)).alloc (.cells #[J Z c1,J Z c2,J Z c3] 72)).alloc (.cells #[J Z d1,J Z d2,J Z d3] 72)):=Cp _ _ _ _ _;generalize ((((w.alloc (.cells #[J Z a1,J Z a2,J Z a3] 72)).alloc (.cells #[J Z b1,J Z b2,J Z b3] 72)).alloc (.cells #[J Z c1,J Z c2,J Z c3] 72)).alloc (.cells #[J Z d1,J Z d2,J Z d3] 72))=w1 at va vb vc vd hB ⊢;have ha:=va;have hb:=vb;have hc:=vc;have hd:=vd;obtain⟨ca0,ca1,ca2⟩:=va;obtain⟨cb0,cb1,cb2⟩:=vb;obtain⟨cc0,cc1,cc2⟩:=vc;obtain⟨cd0,cd1,cd2⟩:=vd;refine(fU a1 a2 a3 b1 b2 b3 _).mono ?_;rintro e w2 ⟨rfl,hx⟩;have va:=ha.kept (aK.in ha) hx;have vb:=hb.kept (aK.in hb) hx;have vc:=hc.kept (aK.in hc) hx;have vd:=hd.kept (aK.in hd) hx;replace hB:=ak hB hx;clear ca0 ca1 ca2 cb0 cb1 cb2 cc0 cc1 cc2 cd0 cd1 cd2 ha hb hc hd hx;have ha:=va;have hb:=vb;have hc:=vc;have hd:=vd;obtain⟨ca0,ca1,ca2⟩:=va;obtain⟨cb0,cb1,cb2⟩:=vb;obtain⟨cc0,cc1,cc2⟩:=vc;obtain⟨cd0,cd1,cd2⟩:=vd;go_wp2_with fail;refine(fU c1 c2 c3 d1 d2 d3 _).mono ?_;rintro e w3 ⟨rfl,hx⟩;have va:=ha.kept (aK.in ha) hx;have vb:=hb.kept (aK.in hb) hx;have vc:=hc.kept (aK.in hc) hx;have vd:=hd.kept (aK.in hd) hx;replace hB:=ak hB hx;clear ca0 ca1 ca2 cb0 cb1 cb2 cc0 cc1 cc2 cd0 cd1 cd2 ha hb hc hd hx;have ha:=va;have hb:=vb;have hc:=vc;have hd:=vd;obtain⟨ca0,ca1,ca2⟩:=va;obtain⟨cb0,cb1,cb2⟩:=vb;obtain⟨cc0,cc1,cc2⟩:=vc;obtain⟨cd0,cd1,cd2⟩:=vd;generalize hxe:bG a1 a2 a3 b1 b2 b3=x;generalize hye:bG c1 c2 c3 d1 d2 d3=y;have HX:=yz hxe;have HY:=yz hye;clear hxe hye;go_wp2_with fail;refine(ey x _).mono ?_;rintro e w3 ⟨rfl,rfl⟩;go_wp2_with fail;refine(ey y _).mono ?_;rintro e w3 ⟨rfl,rfl⟩;by_cases hs:sgn x=sgn y
 ·have hse:(sgn x==sgn y)=true:=by simp[hs]
  go_wp2_with fail;have kc0:=cell_regrown cc0;have kc1:=cell_regrown cc1;have kc2:=cell_regrown cc2;have kd0:=cell_regrown cd0;have kd1:=cell_regrown cd1;have kd2:=cell_regrown cd2;refine dg ?_;repeat (quiet_step (first | exact Calls.regrown_of (fU _ _ _ _ _ _ _) | fail))
  refine dv fun dq osq=>?_;have hx:=below_regrown w3 dq osq;generalize grow (redrawn w3 dq) osq=w4 at hx ⊢;clear kc0 kc1 kc2 kd0 kd1 kd2;have va:=ha.kept (aK.in ha) hx;have vb:=hb.kept (aK.in hb) hx;have vc:=hc.kept (aK.in hc) hx;have vd:=hd.kept (aK.in hd) hx;replace hB:=ak hB hx;clear ca0 ca1 ca2 cb0 cb1 cb2 cc0 cc1 cc2 cd0 cd1 cd2 ha hb hc hd hx;have ha:=va;have hb:=vb;have hc:=vc;have hd:=vd;obtain⟨ca0,ca1,ca2⟩:=va;obtain⟨cb0,cb1,cb2⟩:=vb;obtain⟨cc0,cc1,cc2⟩:=vc;obtain⟨cd0,cd1,cd2⟩:=vd;go_wp2_with fail;have ka0:=cell_regrown ca0;have ka1:=cell_regrown ca1;have ka2:=cell_regrown ca2;have kb0:=cell_regrown cb0;have kb1:=cell_regrown cb1;have kb2:=cell_regrown cb2;refine dg ?_;repeat (quiet_step (first | exact Calls.regrown_of (fU _ _ _ _ _ _ _) | fail))
  refine dv fun dq osq=>?_;have hx:=below_regrown w4 dq osq;generalize grow (redrawn w4 dq) osq=w5 at hx ⊢;clear ka0 ka1 ka2 kb0 kb1 kb2;have va:=ha.kept (aK.in ha) hx;have vb:=hb.kept (aK.in hb) hx;have vc:=hc.kept (aK.in hc) hx;have vd:=hd.kept (aK.in hd) hx;replace hB:=ak hB hx;clear ca0 ca1 ca2 cb0 cb1 cb2 cc0 cc1 cc2 cd0 cd1 cd2 ha hb hc hd hx;have ha:=va;have hb:=vb;have hc:=vc;have hd:=vd;obtain⟨ca0,ca1,ca2⟩:=va;obtain⟨cb0,cb1,cb2⟩:=vb;obtain⟨cc0,cc1,cc2⟩:=vc;obtain⟨cd0,cd1,cd2⟩:=vd;clear ha hb hc hd ca0 ca1 ca2 cb0 cb1 cb2 cc0 cc1 cc2 cd0 cd1 cd2;simp only[Go.IntWalk.i64_left];generalize hpe:wrap64 (wrap64 (x*x)*wrap64 (bG c1 c2 c3 c1 c2 c3*bG d1 d2 d3 d1 d2 d3))=p;generalize hqe:wrap64 (wrap64 (y*y)*wrap64 (bG a1 a2 a3 a1 a2 a3*bG b1 b2 b3 b1 b2 b3))=q;have HP:=yz hpe;have HQ:=yz hqe;have HS:=yz hs;clear hpe hqe;by_cases h1:p<q
  ·have HE:=yz (show qt x y p q=wrap64 (-sgn x) by unfold qt;rw[if_neg (by simp[hs]),if_pos h1]);clear hs hse;go_wp2_with fail;refine(ey x _).mono ?_;rintro e w5 ⟨rfl,rfl⟩;go_wp2_with fail;go_ret;exact⟨by rw[yy HX,yy HY,yy HP,yy HQ,yy HE];rfl,hB⟩
  ·by_cases h2:q<p
   ·have HE:=yz (show qt x y p q=sgn x by unfold qt;rw[if_neg (by simp[hs]),if_neg h1,if_pos h2]);clear hs hse;go_wp2_with fail;refine(ey x _).mono ?_;rintro e w5 ⟨rfl,rfl⟩;go_wp2_with fail;go_ret;exact⟨by rw[yy HX,yy HY,yy HP,yy HQ,yy HE];rfl,hB⟩
   ·have HE:=yz (show qt x y p q=0 by unfold qt;rw[if_neg (by simp[hs]),if_neg h1,if_neg h2]);clear hs hse;go_wp2_with fail;go_ret;exact⟨by rw[yy HX,yy HY,yy HP,yy HQ,yy HE];rfl,hB⟩
 ·have hse:(sgn x==sgn y)=false:=by simp[hs]
  go_wp2_with fail;refine(ey x _).mono ?_;rintro e w3 ⟨rfl,rfl⟩;go_wp2_with fail;refine(ey y _).mono ?_;rintro e w3 ⟨rfl,rfl⟩;go_wp2_with fail;refine(ey _ _).mono ?_;rintro e w3 ⟨rfl,rfl⟩;go_wp2_with fail;go_ret;exact⟨by unfold qt;rw[yy HX,yy HY,if_pos hs];rfl,hB⟩
end
section
open Go.RowKit Go.Sort
theorem Au{p q r P Q:Int}(h1:-P≤p∧p≤P)(h2:-Q≤q∧q≤Q)(h3:-Q≤r∧r≤Q)(k1:P*P≤9223372036854775807)(k3:Q*Q≤9223372036854775807)(k4:(P*P)*(Q*Q)≤9223372036854775807):
  wrap64 (wrap64 (p*p)*wrap64 (q*r))=p*p*(q*r):=by
 have m1:=bR h1 h1;have m2:=bR h2 h3;have m3:=bR m1 m2;rw[au (n:=p*p) (by omega) (by omega),au (n:=q*r) (by omega) (by omega),au (by omega) (by omega)]
theorem Ew{a1 a2 a3 b1 b2 b3 c1 c2 c3 d1 d2 d3:Int}(ha:dy a1 a2 a3=true)(hb:dy b1 b2 b3=true)(hc:aU c1 c2 c3=true)(hd:aU d1 d2 d3=true):
  oq a1 a2 a3 b1 b2 b3 c1 c2 c3 d1 d2 d3=qt (bG a1 a2 a3 b1 b2 b3) (bG c1 c2 c3 d1 d2 d3) (wrap64 (wrap64 (bG a1 a2 a3 b1 b2 b3*bG a1 a2 a3 b1 b2 b3)*wrap64 (bG c1 c2 c3 c1 c2 c3*bG d1 d2 d3 d1 d2 d3))) (wrap64 (wrap64 (bG c1 c2 c3 d1 d2 d3*bG c1 c2 c3 d1 d2 d3)*wrap64 (bG a1 a2 a3 a1 a2 a3*bG b1 b2 b3 b1 b2 b3))):=by
 have wa:=(gj ha).2;have wb:=(gj hb).2;have wc:=(fp hc).2;have wd:=(fp hd).2;have pa:=oS (bz.1 (gj ha).1).2;have pb:=oS (bz.1 (gj hb).1).2;have pc:=oS (bz.1 (fp hc).1).2;have pd:=oS (bz.1 (fp hd).1).2;unfold oq;rw[ha,hb,hc,hd,if_pos (by rfl)];rw[dU wa wb (by omega),dU wc wc (by omega),dU wd wd (by omega),dU wc wd (by omega),dU wa wa (by omega),dU wb wb (by omega)];have x1:=dF wa wb;have x2:=dF wc wc;have x3:=dF wd wd;have x4:=dF wc wd;have x5:=dF wa wa;have x6:=dF wb wb;rw[Au (P:=9720000) (Q:=300) (by omega) (by omega) (by omega) (by omega) (by omega) (by omega),Au (P:=300) (Q:=9720000) (by omega) (by omega) (by omega) (by omega) (by omega) (by omega)];exact(Cy (Int.mul_pos pc pd) (Int.mul_pos pa pb)).symm
end
section
open Go.RowKit
abbrev D3:=Int×Int×Int
def vA(L:List D3)(i:Nat):D3:=L.getD i (0,0,0)
def jI(v:D3):Bool:=dy v.1 v.2.1 v.2.2
def bY(p q:D3):Bool:=eb p.1 p.2.1 p.2.2 q.1 q.2.1 q.2.2
def jM(L:List D3)(v:D3)(n:Nat):Bool:=(List.range n).any fun j=>bY v (vA L j)
def mQ(L:List D3)(v:D3)(k:Nat):Prop:=∀j,j<k→bY v (vA L j)=false
def okV(L:List D3)(i:Nat):Bool:=jI (vA L i) && !jM L (vA L i) i
def tJ(L:List D3)(k:Nat):Prop:=∀j,j<k→okV L j=true
def ba(L:List D3):Bool:=decide (L.length≤6)&&(List.range L.length).all (okV L)
theorem we{L:List D3}{v:D3}{n:Nat}(h:mQ L v n):jM L v n=false:=by
 unfold jM;rw[List.any_eq_false];intro j hj;rw[h j (List.mem_range.1 hj)];simp
theorem sR{L:List D3}{v:D3}{n j:Nat}(hj:j<n)(h:bY v (vA L j)=true):jM L v n=true:=by
 unfold jM;rw[List.any_eq_true];exact⟨j,List.mem_range.2 hj,h⟩
theorem qm{L:List D3}{v:D3}{k:Nat}(h:mQ L v k)(h1:bY v (vA L k)=false):mQ L v (k+1):=by
 intro j hj;by_cases e:j=k
 ·rw[e];exact h1
 ·exact h j (by omega)
theorem xC{L:List D3}{k:Nat}(h:tJ L k)(h1:okV L k=true):tJ L (k+1):=by
 intro j hj;by_cases e:j=k
 ·rw[e];exact h1
 ·exact h j (by omega)
theorem lD{L:List D3}(hl:L.length≤6)(h:tJ L L.length):ba L=true:=by
 unfold ba;rw[Bool.and_eq_true,List.all_eq_true];exact⟨by simpa using hl,fun j hj=>h j (List.mem_range.1 hj)⟩
theorem nQ{L:List D3}{k:Nat}(hk:k<L.length)(h:okV L k=false):ba L=false:=by
 unfold ba
 have:(List.range L.length).all (okV L)=false:=by
  rw[List.all_eq_false];exact⟨k,List.mem_range.2 hk,by rw[h];simp⟩
 rw[this,Bool.and_false]
theorem rK{L:List D3}(hl:6<L.length):ba L=false:=by
 unfold ba;rw[show decide (L.length≤6)=false by simp;omega,Bool.false_and]
theorem bS{L:List D3}(h:ba L=true):L.length≤6∧tJ L L.length:=by
 unfold ba at h;rw[Bool.and_eq_true,List.all_eq_true]at h;exact⟨by simpa using h.1,fun j hj=>h.2 j (List.mem_range.2 hj)⟩
theorem nA{L:List D3}{i:Nat}(h:okV L i=true):jI (vA L i)=true:=by
 unfold okV at h;rw[Bool.and_eq_true]at h;exact h.1
theorem hH{x y z:Int}(h:dy x y z=true):aA x y z=true∧aR 1800 x y z=true:=by simpa[dy] using h
theorem pq{a1 a2 a3 b1 b2 b3:Int}(ra:aA a1 a2 a3=true)(rb:aA b1 b2 b3=true):eb a1 a2 a3 b1 b2 b3=eb b1 b2 b3 a1 a2 a3:=by
 obtain⟨⟨x1,x2,x3⟩,_⟩:=bz.1 ra;obtain⟨⟨y1,y2,y3⟩,_⟩:=bz.1 rb;have e1:=eO x2 x3 y2 y3 (by omega);have e2:=eO x3 x1 y3 y1 (by omega);have e3:=eO x1 x2 y1 y2 (by omega);have f1:=eO y2 y3 x2 x3 (by omega);have f2:=eO y3 y1 x3 x1 (by omega);have f3:=eO y1 y2 x1 x2 (by omega);unfold eb;rw[ra,rb,e1.1,e2.1,e3.1,f1.1,f2.1,f3.1,te];congr 2
 unfold ij;rw[Int.mul_comm b2,Int.mul_comm b3 a2,Int.mul_comm b3 a1,Int.mul_comm b1 a3,Int.mul_comm b1 a2,Int.mul_comm b2 a1];congr 1
 apply propext;constructor<;>rintro ⟨h1,h2,h3⟩<;>exact⟨by omega,by omega,by omega⟩
theorem vn{p q:D3}(hp:jI p=true)(hq:jI q=true):bY p q=bY q p:=pq (hH hp).1 (hH hq).1
end
section
open Go.RowKit
theorem infoByte:∃i:TypeInfo,Tryz.prog.info? 5=some i∧i.zero=some (.int .u8 0)∧i.size=1∧i.bytes=1:=by
 refine⟨_,rfl,?_,?_,?_⟩<;>kernel_rfl
theorem Ag(n:Nat)(h:n≤281474976710656):∃M:Array Value,M.size=n∧∀W:World,(Instr.makeSlice 22 (.int .i64 (n:Int)) (.int .i64 (n:Int))).run Tryz.prog W=.ok (.slice (some ⟨W.heap.size,0,none⟩) n n) (W.alloc (.cells M 5)):=by
 obtain⟨i0,hi,hz0,hz1,hz2⟩:=infoByte;refine⟨madeCells (Value.int .u8 0).cells (((n:Nat):Int).toNat*i0.size),by rw[size_madeCells,hz1];simp,fun W=>?_⟩;have h:=run_make (P:=Tryz.prog) W 22 5 i0 (.int .u8 0) Tryz.underlying22 hi hz0 .i64 .i64 (n:Int) (n:Int) (by omega) (by omega) (by rw[hz2];omega) (by omega);simpa using h
theorem km(w:World)(M Y:Array Value)(T:TypeId):(w.alloc (.cells M T)).setRow w.heap.size Y=w.alloc (.cells Y T):=by
 unfold World.setRow World.alloc;congr 1
 apply Array.ext
 ·simp
 ·intro i h1 h2;have h3:i<w.heap.size+1:=by simpa using h2
  simp only[Array.getElem_modify,Array.getElem_push];by_cases e:i=w.heap.size
  ·subst e;simp
  ·have h4:i<w.heap.size:=by omega
   simp[Ne.symm e,h4]
theorem li(w:World)(T:TypeId)(Y:Array Value)(s:ByteArray)(hY:Y.toList=Lib.byteCells s.data.toList)(cap:Nat):
  (convert 22 9 (.slice (some ⟨w.heap.size,0,none⟩) s.size cap)).run Tryz.prog (w.alloc (.cells Y T))=.ok (.string s) (w.alloc (.cells Y T)):=by
 refine Lib.run_convert_whole (P:=Tryz.prog) _ 22 5 9 Tryz.underlying22 Tryz.underlying5 Tryz.underlying9 w.heap.size 0 s ?_ cap;intro i hi
 have hl:Y[i]? = some (.int .u8 (s[i].toNat:Int)):=by
  rw[←Array.getElem?_toList,hY,Lib.byteCells,List.getElem?_map];have:s.data.toList[i]? = some s[i]:=by rw[Array.getElem?_toList];exact Array.getElem?_eq_getElem hi
  rw[this];rfl
 simp[hl]
theorem uj(a:ByteArray):a ++ ByteArray.empty=a:=by
 apply ByteArray.ext;simp
end
section
open Go.RowKit Go.Sort
def dG(k:Nat):ByteArray:=if k=0 then ⟨#[]⟩ else ⟨(Lib.decDigits k).toArray⟩
def dgB(d:Nat):UInt8:=UInt8.ofNat (48+d)
theorem Fp(k l:List UInt8):((⟨k.toArray⟩:ByteArray) ++ ⟨l.toArray⟩)=⟨(k ++ l).toArray⟩:=by
 apply ByteArray.ext;simp
theorem up{k:Nat}(hk:k≠0):dG k=dG (k / 10) ++ ⟨#[dgB (k % 10)]⟩:=by
 unfold dG dgB;rw[if_neg hk];by_cases h:k<10
 ·rw[if_pos (by omega),Lib.decDigits_one h,Nat.mod_eq_of_lt h];exact(Fp [] _).symm
 ·rw[if_neg (by omega),Lib.decDigits,dif_neg h];exact(Fp _ [_]).symm
theorem Ez:dG 0=⟨#[]⟩:=rfl
theorem yt(x:UInt8):(⟨#[x]⟩:ByteArray).size=1:=rfl
theorem Eu:(⟨#[]⟩:ByteArray).size=0:=rfl
theorem FF(t:ByteArray):(⟨#[]⟩:ByteArray) ++ t=t:=by
 apply ByteArray.ext;simp
theorem Et(t:ByteArray):t ++ (⟨#[]⟩:ByteArray)=t:=by
 apply ByteArray.ext;simp
theorem FI{d:Nat}(h:d<10):((dgB d).toNat:Int)=48+(d:Int):=by
 unfold dgB;rw[UInt8.toNat_ofNat'];omega
theorem FW(k:Nat):(k:Int).tmod 10=((k % 10:Nat):Int):=by
 rw[Int.tmod_eq_emod_of_nonneg (by omega)];omega
theorem FV(k:Nat):(k:Int).tdiv 10=((k / 10:Nat):Int):=by
 rw[Int.tdiv_eq_ediv_of_nonneg (by omega)];omega
theorem FG(w:World)(k:UInt8):(convert 22 9 (.slice (some ⟨w.heap.size,0,none⟩) 1 1)).run Tryz.prog (w.alloc (.cells #[.int .u8 (k.toNat:Int)] 5))=.ok (.string ⟨#[k]⟩) (w.alloc (.cells #[.int .u8 (k.toNat:Int)] 5)):=
 li w 5 #[.int .u8 (k.toNat:Int)] ⟨#[k]⟩ (by simp[Lib.byteCells]) 1
end
section
def pcs(c:UInt8):List UInt8→List (List UInt8)
 | []=>[[]]
 | x :: xs=>if x=c then [] :: pcs c xs else (x :: (pcs c xs).headD []) :: (pcs c xs).tail
theorem kj(c:UInt8)(s:List UInt8):pcs c s≠[]:=by
 cases s with
 | nil=>simp[pcs]
 | cons x xs=>unfold pcs;split<;>simp
theorem jC{c:UInt8}:∀ {s:List UInt8},c ∉ s→pcs c s=[s]
 | [],_=>rfl
 | x :: xs,h=>by
  have hx:¬x=c:=fun e=>h (e ▸ List.mem_cons_self ..);have ih:=jC (c:=c) (s:=xs) (fun h'=>h (List.mem_cons_of_mem _ h'));unfold pcs;rw[if_neg hx,ih];rfl
theorem lA{c:UInt8}:∀ {a b:List UInt8},c ∉ a→pcs c (a ++ c :: b)=a :: pcs c b
 | [],b,_=>by show pcs c (c :: b)=_;rw[pcs,if_pos rfl]
 | x :: xs,b,h=>by
  have hx:¬x=c:=fun e=>h (e ▸ List.mem_cons_self ..);have ih:=lA (c:=c) (a:=xs) (b:=b) (fun h'=>h (List.mem_cons_of_mem _ h'));show pcs c (x :: (xs ++ c :: b))=_;rw[pcs,if_neg hx,ih];rfl
theorem qz{c:UInt8}:∀ {s:List UInt8},c∈s→∃a b,s=a ++ c :: b∧c ∉ a
 | [],h=>by cases h
 | x :: xs,h=>by
  by_cases hx:x=c
  ·exact⟨[],xs,by rw[hx];rfl,by simp⟩
  ·have:c∈xs:=by rcases List.mem_cons.1 h with e | e;exact absurd e.symm hx;exact e
   obtain⟨a,b,e,hn⟩:=qz this;exact⟨x :: a,b,by rw[e];rfl,fun h'=>by rcases List.mem_cons.1 h' with e' | e';exact hx e'.symm;exact hn e'⟩
theorem wN{c:UInt8}{s:List UInt8}(h:c ∉ s):Lib.index s [c] = -1:=by
 rw[Lib.index_one];have:=Lib.indexByte_ge s c;rcases Int.lt_or_le (Lib.indexByte s c) 0 with h1 | h1
 ·omega
 ·obtain⟨o,ho⟩:=Int.eq_ofNat_of_zero_le h1;exact absurd (List.mem_of_getElem? (Lib.indexByte_some ho).1) h
theorem uA{c:UInt8}{a b:List UInt8}(h:c ∉ a):Lib.index (a ++ c :: b) [c]=(a.length:Int):=by
 rw[Lib.index_one];have:=Lib.indexByte_ge (a ++ c :: b) c;rcases Int.lt_or_le (Lib.indexByte (a ++ c :: b) c) 0 with h1 | h1
 ·exact absurd (by rw[List.getElem?_append_right (Nat.le_refl _)];simp) (Lib.indexByte_none (l:=a ++ c :: b) (c:=c) (by omega) a.length)
 ·obtain⟨o,ho⟩:=Int.eq_ofNat_of_zero_le h1;obtain⟨g1,g2⟩:=Lib.indexByte_some ho;rw[ho];rcases Nat.lt_trichotomy o a.length with h2 | h2 | h2
  ·rw[List.getElem?_append_left h2]at g1;exact absurd (List.mem_of_getElem? g1) h
  ·rw[h2]
  ·exact absurd (by rw[List.getElem?_append_right (Nat.le_refl _)];simp) (g2 a.length h2)
theorem Cz{c:UInt8}{s:List UInt8}(h:c ∉ s):Lib.cut s [c]=(s,[],false):=by unfold Lib.cut;rw[wN h];rfl
theorem Ey{c:UInt8}{a b:List UInt8}(h:c ∉ a):Lib.cut (a ++ c :: b) [c]=(a,b,true):=by
 unfold Lib.cut;rw[uA h,if_pos (by omega)];simp
theorem tU(c:UInt8):∀(n:Nat) (s:List UInt8),s.length≤n→Lib.splitK [c] 0 (Lib.count s [c]) s=pcs c s
 | n,s,hn=>by
  by_cases h:c∈s
  ·obtain⟨a,b,rfl,ha⟩:=qz h
   match n,hn with
   | 0,hn=>simp at hn
   | n+1,hn=>
    have ih:=tU c n b (by simp at hn;omega)
    have hc:Lib.count (a ++ c :: b) [c]=1+Lib.count b [c]:=by
     have:=Lib.count_hit (s:=a ++ c :: b) (sub:=[c]) (i:=a.length) (by simp) (uA ha);rw[this];simp
    rw[hc,Nat.add_comm,Lib.splitK,uA ha,if_neg (by simp),lA ha];simp only[Int.toNat_natCast,Nat.add_zero];rw[List.take_left,show ([c]:List UInt8).length=1 from rfl,←ih];congr 2
    simp
  ·rw[Lib.count_miss (wN h),jC h];rfl
def si(x:UInt8):Bool:=decide (48≤x.toNat∧x.toNat≤57)
def kq:List UInt8→Int:=fun l=>l.foldl (fun n x=>10*n+((x.toNat:Int)-48)) 0
def gg(l:List UInt8):Bool:=decide (1≤l.length∧l.length≤9) && !(decide (1<l.length)&&decide (l.head? = some 48))&&l.all si
def jp:List UInt8:=[98,108,105,110,100]
def jq:List UInt8:=[100,114,105,102,116]
def sK:List UInt8:=[105,100,115]
def mc:List UInt8:=[109,111,118,101]
def jr:List UInt8:=[114,101,115,101,116]
def sL:List UInt8:=[115,101,101]
def js:List UInt8:=[115,116,97,116,101]
structure Ln where
 k:Nat
 t:List UInt8
 n:Int
def iK(k:Nat):List (List UInt8)→Option Ln
 | [x]=>if x=[] then none else some ⟨k,x,0⟩
 | _=>none
def jj(k:Nat):List (List UInt8)→Option Ln
 | [x]=>if gg x=true then some ⟨k,[],kq x⟩ else none
 | _=>none
def gY(k:Nat):List (List UInt8)→Option Ln
 | []=>some ⟨k,[],0⟩
 | _=>none
def bq(raw:List UInt8):Option Ln:=
 match pcs 32 raw with
 | []=>none
 | w :: r=>if w=jp then gY 0 r else if w=jq then iK 1 r else if w=sK then jj 2 r else if w=mc then iK 3 r else if w=jr then gY 4 r else if w=sL then jj 5 r else if w=js then gY 6 r else none
def cx:Nat→List (List UInt8)→List Ln ⊕ Nat
 | i,[]=>.inl []
 | i,[p]=>if p=[] then .inl [] else .inr i
 | i,p :: q :: r=>match bq p with
  | none=>.inr i
  | some l=>if 40≤i then .inr i else match cx (i+1) (q :: r) with
   | .inl ls=>.inl (l :: ls)
   | .inr j=>.inr j
end
section
open Go.RowKit
theorem Ca(l:List UInt8)(x:UInt8):kq (l ++ [x])=10*kq l+((x.toNat:Int)-48):=by unfold kq;rw[List.foldl_append];rfl
def dgs(s:ByteArray)(k:Nat):Bool:=(s.data.toList.take k).all si
def vls(s:ByteArray)(k:Nat):Int:=kq (s.data.toList.take k)
theorem nX(s:ByteArray)(k:Nat)(h:k<s.size):s.data.toList.take (k+1)=s.data.toList.take k ++ [s[k]]:=by
 have hl:k<s.data.toList.length:=by simpa using h
 have e2:s.data.toList[k]=s[k]:=by
  have e1:s.data.toList[k]? = some s[k]:=by
   rw[Array.getElem?_toList];exact Array.getElem?_eq_getElem h
  rw[List.getElem?_eq_getElem hl]at e1;exact Option.some.inj e1
 rw[List.take_succ_eq_append_getElem hl,e2]
theorem mZ(s:ByteArray)(k:Nat)(h:k<s.size):dgs s (k+1)=(dgs s k&&si s[k]):=by unfold dgs;rw[nX s k h,List.all_append];simp
theorem rV(s:ByteArray)(k:Nat)(h:k<s.size):vls s (k+1)=10*vls s k+((s[k].toNat:Int)-48):=by unfold vls;rw[nX s k h,Ca]
theorem uE(x:UInt8):si x=true↔48≤x.toNat∧x.toNat≤57:=by unfold si;simp
theorem oV(s:ByteArray):∀k,k≤s.size→dgs s k=true→0≤vls s k∧vls s k<10 ^ k
 | 0,_,_=>by unfold vls kq;simp
 | k+1,hk,h=>by
  rw[mZ s k (by omega),Bool.and_eq_true]at h;have ih:=oV s k (by omega) h.1;have:=(uE _).1 h.2;rw[rV s k (by omega),Int.pow_succ];omega
variable {s:ByteArray}
theorem yj{k:Nat}(hk:k≤s.size)(h9:s.size≤9)(h:dgs s k=true):0≤vls s k∧vls s k≤999999999:=by
 have b:=oV s k hk h
 have:(10:Int) ^ k≤10 ^ 9:=by
  have:=Nat.pow_le_pow_right (n:=10) (by omega) (show k≤9 by omega);exact_mod_cast this
 have e:(10:Int) ^ 9=1000000000:=by decide
 omega
theorem yD(s:ByteArray){k:Nat}(hk:k<s.size)(h:si s[k]=false):dgs s s.size=false:=by
 have:∀n,k<n→n≤s.size→dgs s n=false:=by
  intro n
  induction n with
  | zero=>intro h1;omega
  | succ n ih=>
   intro h1 h2;rw[mZ s n (by omega)];by_cases e:k=n
   ·subst e;rw[h];simp
   ·rw[ih (by omega) (by omega)];rfl
 exact this s.size hk (Nat.le_refl _)
theorem be(s:ByteArray):s.data.toList.length=s.size:=by simp
theorem EA(s:ByteArray):dgs s s.size=s.data.toList.all si:=by unfold dgs;rw[List.take_of_length_le (by rw[be];exact Nat.le_refl _)]
theorem vR(s:ByteArray):vls s s.size=kq s.data.toList:=by unfold vls;rw[List.take_of_length_le (by rw[be];exact Nat.le_refl _)]
theorem zZ(s:ByteArray)(h:0<s.size):s.data.toList.head? = some s[0]:=by
 rw[List.head?_eq_getElem?,Array.getElem?_toList];exact Array.getElem?_eq_getElem h
def fP(s:ByteArray):Bool:=decide (1≤s.size∧s.size≤9) && !(decide (1<s.size)&&decide (s.data.toList.head? = some 48))
theorem gr(s:ByteArray):gg s.data.toList=(fP s&&dgs s s.size):=by unfold gg fP;rw[EA,be]
theorem Ay{x:Nat}(h:48≤x)(h2:x≤57):IntKind.u8.wrap ((x:Int)-48)=(x:Int)-48:=by
 obtain⟨d,rfl⟩:∃d,x=48+d:=⟨x-48,by omega⟩
 have:d≤9:=by omega
 have hc:d=0∨d=1∨d=2∨d=3∨d=4∨d=5∨d=6∨d=7∨d=8∨d=9:=by omega
 rcases hc with rfl | rfl | rfl | rfl | rfl | rfl | rfl | rfl | rfl | rfl<;>decide
theorem qS(s:ByteArray)(w:World)(hs:s.size≤8000):
  Calls Tryz.prog 30 #[.string s] w fun e w'=>e=.returned (.int .i64 (if gg s.data.toList=true then kq s.data.toList else -1))∧w'=w:=by
 obtain⟨R,hR⟩:∃R:Int,(if gg s.data.toList=true then kq s.data.toList else -1)=R:=⟨_,rfl⟩
 rw[hR];have HR:=yz hR;clear hR;by_cases h0:s.size<1
 ·have hd:decide ((s.size:Int)<1)=true:=decide_eq_true (by omega);have HO:Hid (R = -1):=yz (by rw[←yy HR,gr];unfold fP;rw[decide_eq_false (show ¬(1≤s.size∧s.size≤9) by omega)];rfl);go_enter Tryz.func30,Tryz.ntmps30;go_wp2;go_ret;exact⟨by rw[yy HO];rfl,rfl⟩
 have hd:decide ((s.size:Int)<1)=false:=decide_eq_false (by omega);by_cases h9:9<s.size
 ·have hd9:decide ((9:Int)<(s.size:Int))=true:=decide_eq_true (by omega);have HO:Hid (R = -1):=yz (by rw[←yy HR,gr];unfold fP;rw[decide_eq_false (show ¬(1≤s.size∧s.size≤9) by omega)];rfl);go_enter Tryz.func30,Tryz.ntmps30;go_wp2;go_ret;exact⟨by rw[yy HO];rfl,rfl⟩
 have hd9:decide ((9:Int)<(s.size:Int))=false:=decide_eq_false (by omega);have hp:0<s.size:=by omega
 have hhd:=zZ s hp;have hrange:decide (1≤s.size∧s.size≤9)=true:=decide_eq_true (by omega);by_cases hz:1<s.size∧s[0]=48
 ·have h1:decide ((1:Int)<(s.size:Int))=true:=decide_eq_true (by omega);have hb:((s[0].toNat:Int)==48)=true:=by rw[hz.2];rfl
  have HO:Hid (R = -1):=yz (by rw[←yy HR,gr];unfold fP;rw[hrange,hhd,hz.2,decide_eq_true hz.1];rfl);go_enter Tryz.func30,Tryz.ntmps30;go_wp2;go_ret;exact⟨by rw[yy HO];rfl,rfl⟩
 have HH:Hid (fP s=true):=yz (by
  unfold fP;rw[hrange,hhd];by_cases h1:1<s.size
  ·have:s[0]≠48:=fun e=>hz ⟨h1,e⟩;rw[decide_eq_true h1,decide_eq_false (by simpa using this)];rfl
  ·rw[decide_eq_false h1]
   rfl)
 have key:decide ((1:Int)<(s.size:Int))=false∨(decide ((1:Int)<(s.size:Int))=true∧((s[0].toNat:Int)==48)=false):=by
  by_cases h1:1<s.size
  ·refine .inr ⟨decide_eq_true (by omega),?_⟩;have:s[0]≠48:=fun e=>hz ⟨h1,e⟩;have h2:s[0].toNat≠48:=fun e=>this (UInt8.toNat.inj e);simpa using(show (s[0].toNat:Int)≠48 by omega)
  ·exact .inl (decide_eq_false (by omega))
 have HRR:Hid (R=if dgs s s.size=true then vls s s.size else -1):=yz (by rw[←yy HR,gr,yy HH,Bool.true_and,vR]);have h9':s.size≤9:=by omega
 clear hz hrange hhd HR HH;rcases key with h1 | ⟨h1,hb⟩
 all_goals
  go_enter Tryz.func30,Tryz.ntmps30;go_wp2_with fail;go_loop [3,4] (fun n i=>∃(k:Nat) (v:Int),k≤s.size∧i=.int .i64 k∧n=.int .i64 v∧0≤v∧v≤999999999∧Hid (v=vls s k)∧Hid (dgs s k=true)) (fun _ i=>s.size-(intOf i).toNat)
  case atStart=>exact⟨0,0,by omega,rfl,rfl,by omega,by omega,yz rfl,yz rfl⟩
  case round=>
   obtain⟨k,v,hk,rfl,rfl,hv0,hv9,HV,HD⟩:=hrel;by_cases hkn:k<s.size
   ·have hkn2:(k:Int)<(s.size:Int):=by omega
    have HS:=yz (mZ s k hkn);have HVS:=yz (rV s k hkn);have HB:=yz (fun h=>yj (s:=s) (k:=k+1) (by omega) h9' h);have hbt:=s[k].toNat_lt;obtain⟨x,hx⟩:∃x:Nat,s[k].toNat=x:=⟨_,rfl⟩
    have HI:=yz (uE s[k]);rw[hx]at HVS HI hbt;by_cases hl:x<48
    ·have hdl:decide ((x:Int)<48)=true:=decide_eq_true (by omega)
     have HO:Hid (R = -1):=yz (by
      have hf:dgs s s.size=false:=yD s hkn (by cases hq:si s[k] with | false=>rfl | true=>have:=(yy HI).1 hq;omega);rw[yy HRR,hf]
      rfl)
     go_wp2;go_ret;exact⟨by rw[yy HO];rfl,rfl⟩
    have hdl:decide ((x:Int)<48)=false:=decide_eq_false (by omega);by_cases hr:57<x
    ·have hdr:decide ((57:Int)<(x:Int))=true:=decide_eq_true (by omega)
     have HO:Hid (R = -1):=yz (by
      have hf:dgs s s.size=false:=yD s hkn (by cases hq:si s[k] with | false=>rfl | true=>have:=(yy HI).1 hq;omega);rw[yy HRR,hf]
      rfl)
     go_wp2;go_ret;exact⟨by rw[yy HO];rfl,rfl⟩
    have hdr:decide ((57:Int)<(x:Int))=false:=decide_eq_false (by omega);have hw:=Ay (x:=x) (by omega) (by omega);have HD2:Hid (dgs s (k+1)=true):=yz (by rw[yy HS,yy HD,(yy HI).2 (by omega)];rfl);have hbd:=yy HB (yy HD2);rw[yy HVS,←yy HV]at hbd;have HV2:Hid (10*v+((x:Int)-48)=vls s (k+1)):=yz (by rw[yy HVS,yy HV]);clear HS HVS HB HI hbt;go_wp2;go_round
    case rel=>exact⟨k+1,10*v+((x:Int)-48),by omega,by go_num,by go_num,hbd.1,hbd.2,HV2,HD2⟩
    case measure=>simp[intOf];omega
   ·have hkn':k=s.size:=by omega
    subst hkn';go_wp2;go_ret;exact⟨by rw[yy HRR,yy HD,if_pos rfl,←yy HV];rfl,rfl⟩
theorem uF(x:Nat)(w:World):
  Calls Tryz.prog 140 #[.int .u8 (x:Int)] w fun e w'=>e=.returned (.bool (decide (48≤x∧x≤57)))∧w'=w:=by
 by_cases hl:48≤x
 ·have h1:decide ((48:Int)≤(x:Int))=true:=decide_eq_true (by omega);by_cases hr:x≤57
  ·have h2:decide ((x:Int)≤57)=true:=decide_eq_true (by omega);have HO:Hid (decide (48≤x∧x≤57)=true):=yz (decide_eq_true ⟨hl,hr⟩);go_enter Tryz.func140,Tryz.ntmps140;go_wp2;go_ret;exact⟨by rw[yy HO];rfl,rfl⟩
  ·have h2:decide ((x:Int)≤57)=false:=decide_eq_false (by omega);have HO:Hid (decide (48≤x∧x≤57)=false):=yz (decide_eq_false (by omega));go_enter Tryz.func140,Tryz.ntmps140;go_wp2;go_ret;exact⟨by rw[yy HO];rfl,rfl⟩
 ·have h1:decide ((48:Int)≤(x:Int))=false:=decide_eq_false (by omega);have HO:Hid (decide (48≤x∧x≤57)=false):=yz (decide_eq_false (by omega));go_enter Tryz.func140,Tryz.ntmps140;go_wp2;go_ret;exact⟨by rw[yy HO];rfl,rfl⟩
theorem Fj{a b:ByteArray}(h:a≠b):(a.toList==b.toList)=false:=by
 rw[ByteArray.toList_eq,ByteArray.toList_eq];simp;intro e;exact h (ByteArray.ext e)
theorem fQ{a:ByteArray}{l:List UInt8}(h:a≠⟨l.toArray⟩):(a.toList==l)=false:=by
 rw[ByteArray.toList_eq];cases h2:(a.data.toList==l) with
 | false=>rfl
 | true=>exact absurd (ByteArray.ext (by rw[←(show a.data.toList=l by simpa using h2)])) h
theorem qa{a:ByteArray}{l:List UInt8}(h:a=⟨l.toArray⟩):(a.toList==l)=true:=by rw[ByteArray.toList_eq,h];simp
theorem Dz(h1:s.size=1)(h:s[0]'(by omega)=48):s=⟨#[48]⟩:=by
 apply ByteArray.ext;apply Array.ext
 ·exact h1
 ·intro i hi1 hi2;obtain rfl:i=0:=by have:s.data.size=1:=h1;omega
  exact h
theorem sB(s:ByteArray)(w:World)(hs:s.size≤8000):
  Calls Tryz.prog 115 #[.string s] w fun e w'=>e=.returned (.tuple #[.int .i64 (if gg s.data.toList=true then kq s.data.toList else 0),.bool (gg s.data.toList)])∧w'=w:=by
 obtain⟨R,hR⟩:∃R:Int,(if gg s.data.toList=true then kq s.data.toList else 0)=R:=⟨_,rfl⟩
 obtain⟨Q,hQ⟩:∃Q:Bool,gg s.data.toList=Q:=⟨_,rfl⟩
 rw[hR,hQ];have HR:=yz hR;have HQ:=yz hQ;clear hR hQ;have no:Hid (gg s.data.toList=false→R=0∧Q=false):=yz (fun h=>⟨by rw[←yy HR,h];rfl,by rw[←yy HQ,h]⟩);by_cases h0:s.size<1
 ·have hd:decide ((s.size:Int)<1)=true:=decide_eq_true (by omega);have HO:=yz (yy no (by rw[gr];unfold fP;rw[decide_eq_false (show ¬(1≤s.size∧s.size≤9) by omega)];rfl));go_enter Tryz.func115,Tryz.ntmps115;go_wp2;refine bodyPost_ret (v:=.tuple #[.int .i64 0,.bool false]) (by simp[results,Tryz.results115,go_sem]) rfl ⟨by rw[(yy HO).1,(yy HO).2],rfl⟩
 have hd:decide ((s.size:Int)<1)=false:=decide_eq_false (by omega);by_cases h9:9<s.size
 ·have hd9:decide ((9:Int)<(s.size:Int))=true:=decide_eq_true (by omega);have HO:=yz (yy no (by rw[gr];unfold fP;rw[decide_eq_false (show ¬(1≤s.size∧s.size≤9) by omega)];rfl));go_enter Tryz.func115,Tryz.ntmps115;go_wp2;refine bodyPost_ret (v:=.tuple #[.int .i64 0,.bool false]) (by simp[results,Tryz.results115,go_sem]) rfl ⟨by rw[(yy HO).1,(yy HO).2],rfl⟩
 have hd9:decide ((9:Int)<(s.size:Int))=false:=decide_eq_false (by omega);have hp:0<s.size:=by omega
 have hhd:=zZ s hp;have hrange:decide (1≤s.size∧s.size≤9)=true:=decide_eq_true (by omega);by_cases hz:1<s.size∧s[0]=48
 ·have hb:((s[0].toNat:Int)==48)=true:=by rw[hz.2];rfl
  have hne:(s.toList==[48])=false:=fQ (l:=[48]) (fun e=>by have:=congrArg ByteArray.size e;have h1:(⟨#[48]⟩:ByteArray).size=1:=rfl;omega);have HO:=yz (yy no (by rw[gr];unfold fP;rw[hrange,hhd,hz.2,decide_eq_true hz.1];rfl));go_enter Tryz.func115,Tryz.ntmps115;go_wp2;refine bodyPost_ret (v:=.tuple #[.int .i64 0,.bool false]) (by simp[results,Tryz.results115,go_sem]) rfl ⟨by rw[(yy HO).1,(yy HO).2],rfl⟩
 have HH:Hid (fP s=true):=yz (by
  unfold fP;rw[hrange,hhd];by_cases h1:1<s.size
  ·have:s[0]≠48:=fun e=>hz ⟨h1,e⟩;rw[decide_eq_true h1,decide_eq_false (by simpa using this)];rfl
  ·rw[decide_eq_false h1]
   rfl)
 have key:((s[0].toNat:Int)==48)=false∨(((s[0].toNat:Int)==48)=true∧(s.toList==[48])=true):=by
  by_cases h1:s[0]=48
  ·exact .inr ⟨by rw[h1];rfl,qa (l:=[48]) (Dz (by have:¬1<s.size:=fun e=>hz ⟨e,h1⟩;omega) h1)⟩
  ·have h2:s[0].toNat≠48:=fun e=>h1 (UInt8.toNat.inj e);exact .inl (by simpa using(show (s[0].toNat:Int)≠48 by omega))
 have HRR:Hid (R=(if dgs s s.size=true then vls s s.size else 0)∧Q=dgs s s.size):=yz (by rw[←yy HR,←yy HQ,gr,yy HH,Bool.true_and,vR];exact⟨rfl,rfl⟩);have h9':s.size≤9:=by omega
 clear hz hrange hhd HR HH HQ no;rcases key with hb | ⟨hb,hst⟩
 all_goals
  go_enter Tryz.func115,Tryz.ntmps115;go_wp2_with fail;go_loop [4,25] (fun n i=>∃(k:Nat) (v:Int),k≤s.size∧i=.int .i64 k∧n=.int .i64 v∧0≤v∧v≤999999999∧Hid (v=vls s k)∧Hid (dgs s k=true)) (fun _ i=>s.size-(intOf i).toNat)
  case atStart=>exact⟨0,0,by omega,rfl,rfl,by omega,by omega,yz rfl,yz rfl⟩
  case round=>
   obtain⟨k,v,hk,rfl,rfl,hv0,hv9,HV,HD⟩:=hrel;by_cases hkn:k<s.size
   ·have hkn2:(k:Int)<(s.size:Int):=by omega
    have HS:=yz (mZ s k hkn);have HVS:=yz (rV s k hkn);have HB:=yz (fun h=>yj (s:=s) (k:=k+1) (by omega) h9' h);have hbt:=s[k].toNat_lt;obtain⟨x,hx⟩:∃x:Nat,s[k].toNat=x:=⟨_,rfl⟩
    have HI:=yz (uE s[k]);rw[hx]at HVS HI hbt;have cD:=yz (uF x w);by_cases hdg:48≤x∧x≤57
    ·have hw:=Ay (x:=x) hdg.1 hdg.2;have HD2:Hid (dgs s (k+1)=true):=yz (by rw[yy HS,yy HD,(yy HI).2 hdg];rfl);have hbd:=yy HB (yy HD2);rw[yy HVS,←yy HV]at hbd;have HV2:Hid (10*v+((x:Int)-48)=vls s (k+1)):=yz (by rw[yy HVS,yy HV]);rw[decide_eq_true hdg]at cD;clear HS HVS HB HI hbt;go_wp2_with fail;refine(yy cD).mono ?_;rintro e w2 ⟨rfl,hw2⟩;subst hw2;go_wp2;go_round
     case rel=>exact⟨k+1,10*v+((x:Int)-48),by omega,by go_num,by go_num,hbd.1,hbd.2,HV2,HD2⟩
     case measure=>simp[intOf];omega
    ·have HO:Hid (R=0∧Q=false):=yz (by
      have hf:dgs s s.size=false:=yD s hkn (by cases hq:si s[k] with | false=>rfl | true=>exact absurd ((yy HI).1 hq) hdg);rw[(yy HRR).1,(yy HRR).2,hf]
      exact⟨rfl,rfl⟩)
     rw[decide_eq_false hdg]at cD;go_wp2_with fail;refine(yy cD).mono ?_;rintro e w2 ⟨rfl,hw2⟩;subst hw2;go_wp2;refine bodyPost_ret (v:=.tuple #[.int .i64 0,.bool false]) (by simp[results,Tryz.results115,go_sem]) rfl ⟨by rw[(yy HO).1,(yy HO).2],rfl⟩
   ·have hkn':k=s.size:=by omega
    subst hkn';go_wp2;refine bodyPost_ret (v:=.tuple #[.int .i64 v,.bool true]) (by simp[results,Tryz.results115,go_sem]) rfl ⟨by rw[(yy HRR).1,(yy HRR).2,yy HD,if_pos rfl,←yy HV],rfl⟩
end
section
open Go.RowKit
def eG(n:Nat):ByteArray:=if n=0 then ⟨#[48]⟩ else dG n
theorem qu{n:Nat}(h:n≠0):eG n=dG n:=by unfold eG;rw[if_neg h]
theorem uo:∀(k n:Nat),n<10 ^ k→(dG n).size≤k
 | 0,n,h=>by
  obtain rfl:n=0:=by omega
  exact Nat.le_refl _
 | k+1,n,h=>by
  by_cases hn:n=0
  ·subst hn;exact Nat.zero_le _
  ·rw[up hn,ByteArray.size_append,yt];have:=uo k (n / 10) (by rw[Nat.pow_succ]at h;omega);omega
theorem ec{n:Nat}(h:n≤1000000000):(eG n).size≤10:=by
 by_cases hn:n=0
 ·subst hn;decide
 ·rw[qu hn];exact uo 10 n (by omega)
theorem fj(n:Nat)(w:World)(hn:n≤1000000000):
  Calls Tryz.prog 37 #[.int .i64 n] w fun e w'=>e=.returned (.string (eG n))∧Below w.heap.size w w':=by
 by_cases h0:n=0
 ·subst h0;go_enter Tryz.func37,Tryz.ntmps37;go_wp2_with fail;go_ret;exact⟨rfl,Below.refl _ _⟩
 have h0':((n:Int)==0)=false:=by simpa using(show (n:Int)≠0 by omega)
 have hng:¬(n:Int)<0:=by omega
 have HO:=yz (qu h0);go_enter Tryz.func37,Tryz.ntmps37;go_wp2_with fail;go_loopw [0,4] (fun u s wr=>∃(k:Nat) (t:ByteArray),u=.int .i64 k∧s=.string t∧k≤n∧t.size+k≤n∧Hid (dG k ++ t=dG n)∧Hid (Below w.heap.size w wr)) (fun u _ _=>(intOf u).toNat)
 case atStart=>exact⟨n,⟨#[]⟩,rfl,rfl,Nat.le_refl _,by rw[Eu];omega,yz (Et _),yz (Below.refl _ _)⟩
 case round=>
  obtain⟨k,t,rfl,rfl,hk,ht,HD,HB⟩:=hrel;by_cases hz:k=0
  ·subst hz;go_wp2;go_ret;exact⟨by rw[yy HO,←yy HD,Ez,FF];rfl,yy HB⟩
  ·have hk0:((k:Int)==0)=false:=by simpa using(show (k:Int)≠0 by omega)
   obtain⟨d,hd⟩:∃d,k % 10=d:=⟨_,rfl⟩
   obtain⟨q,hq⟩:∃q,k / 10=q:=⟨_,rfl⟩
   have hd10:d<10:=by omega
   have hdn:¬(d:Int)<0:=by omega
   have er:=FW k;have eq:=FV k;rw[hd]at er;rw[hq]at eq;have hcv:=FG wr (dgB d);rw[FI hd10]at hcv;have hc:¬(⟨#[dgB d]⟩:ByteArray).size+t.size>9223372036854775807:=by rw[yt];omega
   go_wp2;go_roundw
   case rel=>exact⟨q,⟨#[dgB d]⟩ ++ t,rfl,rfl,by omega,by rw[ByteArray.size_append,yt];omega,yz (by rw[←yy HD,up hz,hd,hq,ByteArray.append_assoc]),yz (ak (yy HB) (an _ _))⟩
   case measure=>simp[intOf];omega
def gm(n:Nat):ByteArray:=⟨#[101,114,114,111,114,32]⟩ ++ eG n
theorem im(n:Nat)(w:World)(hn:n≤1000000000):
  Calls Tryz.prog 36 #[.int .i64 n] w fun e w'=>e=.returned (.string (gm n))∧Below w.heap.size w w':=by
 have hz:=ec hn;have cD:=yz (fj n w hn);have HE:Hid (gm n=⟨#[101,114,114,111,114,32]⟩ ++ eG n):=yz rfl;generalize eG n=x at *;have hc:¬(⟨#[101,114,114,111,114,32]⟩:ByteArray).size+x.size>9223372036854775807:=by have:(⟨#[101,114,114,111,114,32]⟩:ByteArray).size=6:=rfl;omega
 go_enter Tryz.func36,Tryz.ntmps36;go_wp2_with fail;refine(yy cD).mono ?_;rintro e w1 ⟨rfl,hx⟩;have HB:=yz hx;clear hx cD;go_wp2;go_ret;exact⟨by rw[yy HE];rfl,yy HB⟩
end
section
open Go.RowKit
def fA(w:World)(t:TypeId)(g m:Nat)(f:Nat→Int):Prop:=∃cur:Array Value,w.heap[g]? = some (.cells cur t (0,0))∧∀j,j<m→cur[j]? = some (.int .i64 (f j))
variable {g m:Nat} {w w':World}
theorem fA.lt{t:TypeId}{f:Nat→Int}(h:fA w t g m f):g<w.heap.size:=by
 obtain⟨cur,hc,_⟩:=h;exact(Array.getElem?_eq_some_iff.1 hc).1
theorem fA.same{t:TypeId}{f:Nat→Int}(h:fA w t g m f)(e:w'.heap[g]? = w.heap[g]?):fA w' t g m f:=by
 obtain⟨cur,hc,hs⟩:=h;exact⟨cur,by rw[e];exact hc,hs⟩
theorem fA.kept{t:TypeId}{f:Nat→Int}(h:fA w t g m f)(hB:Below w.heap.size w w'):fA w' t g m f:=h.same (hB.block g h.lt)
theorem fA.congr{t:TypeId}{f f':Nat→Int}(h:fA w t g m f)(e:∀j,j<m→f j=f' j):fA w t g m f':=by
 obtain⟨cur,hc,hs⟩:=h;exact⟨cur,hc,fun j hj=>by rw[hs j hj,e j hj]⟩
theorem fA.cell{t:TypeId}{j:Nat}{f:Nat→Int}(h:fA w t g m f)(hj:j<m):w.cell? ⟨g,j,none⟩=some (.int .i64 (f j)):=by
 obtain⟨cur,hc,hs⟩:=h;rw[cell_of_row w g j cur t _ hc];exact hs j hj
theorem fA.free{t:TypeId}{f:Nat→Int}(h:fA w t g m f)(j:Nat):w.frozen? ⟨g,j,none⟩=false:=by
 obtain⟨cur,hc,_⟩:=h;exact frozen_of_row w g j cur t hc
theorem fA.set{t:TypeId}{f:Nat→Int}(h:fA w t g m f)(i:Nat)(v:Int):fA (w.setCell ⟨g,i,none⟩ (.int .i64 v)) t g m (fun j=>if j=i then v else f j):=by
 obtain⟨cur,hc,hs⟩:=h;refine⟨_,heap_setCell_same w g i cur t (.int .i64 v) hc,fun j hj=>?_⟩;have:=hs j hj;rw[Array.getElem?_setIfInBounds];by_cases e:i=j
 ·subst e;simp[(Array.getElem?_eq_some_iff.1 this).1]
 ·have e':¬j=i:=fun h=>e (Eq.symm h);simp[e,e',this]
theorem ix(w:World)(row:Option Nat):w.grownBy w row:=⟨rfl,rfl,rfl,Nat.le_refl _,fun _ _ _=>rfl⟩
theorem kJ{w1:World}(h:w.grownBy w1 (some g))(i:Nat)(v:Value):w.grownBy (w1.setCell ⟨g,i,none⟩ v) (some g):=
 ⟨h.os,h.tape,h.output,by simpa[World.setCell] using h.size,fun k hk hne=>by rw[Below.heap_setCell _ _ _ _ (fun e=>hne (by rw[e]))];exact h.block k hk hne⟩
end
section
open Go.RowKit Go.Sort
def SAt(w:World)(b:Nat)(vs:List Value):Prop:=∀i v,vs[i]? = some v→w.cell? ⟨b,i,none⟩=some v
variable {vs:List Value} {v x y z:Value} {w:World}
theorem SAt.lt{b:Nat}(h:SAt w b (v :: vs)):b<w.heap.size:=World.block_lt_of_cell? w _ (h 0 v rfl)
theorem SAt.kept{w':World}{b:Nat}(h:SAt w b (v :: vs))(hB:Below w.heap.size w w'):SAt w' b (v :: vs):=fun i u hu=>by
 rw[hB.cell (p:=⟨b,i,none⟩) h.lt];exact h i u hu
theorem SAt.c3{b:Nat}(h:SAt w b [x,y,z]):w.cell? ⟨b,0,none⟩=some x∧w.cell? ⟨b,1,none⟩=some y∧w.cell? ⟨b,2,none⟩=some z:=⟨h 0 x rfl,h 1 y rfl,h 2 z rfl⟩
theorem SAt.c5{b:Nat}{u:Value}(h:SAt w b [x,y,z,u,v]):w.cell? ⟨b,0,none⟩=some x∧w.cell? ⟨b,1,none⟩=some y∧w.cell? ⟨b,2,none⟩=some z∧w.cell? ⟨b,3,none⟩=some u∧w.cell? ⟨b,4,none⟩=some v:=⟨h 0 x rfl,h 1 y rfl,h 2 z rfl,h 3 u rfl,h 4 v rfl⟩
def Blk(w:World)(b:Nat)(cs:List Value)(t:TypeId):Prop:=w.heap[b]? = some (.cells cs.toArray t (0,0))
variable {cs r:List Value} {x0 x1 x2 x3 x4 x5 x6 x7 x8 x9:Value} {w w':World}
theorem Blk.lt{b:Nat}{t:TypeId}(h:Blk w b cs t):b<w.heap.size:=(Array.getElem?_eq_some_iff.1 h).1
theorem Blk.kept{b:Nat}{t:TypeId}(h:Blk w b cs t)(hB:Below w.heap.size w w'):Blk w' b cs t:=(hB.block b h.lt).trans h
theorem aq(w:World)(cs:List Value)(t:TypeId):Blk (w.alloc (.cells cs.toArray t)) w.heap.size cs t:=heap_alloc_new w _
theorem Blk.alloc{b:Nat}{t:TypeId}(h:Blk w b cs t)(o:Obj):Blk (w.alloc o) b cs t:=h.kept (an _ _)
theorem Blk.cell{b:Nat}{t:TypeId}(h:Blk w b cs t)(i:Nat)(v:Value)(hv:cs[i]? = some v):w.cell? ⟨b,i,none⟩=some v:=by
 rw[cell_of_row w b i _ _ _ h];simpa using hv
theorem Blk.free{b:Nat}{t:TypeId}(h:Blk w b cs t)(i:Nat):w.frozen? ⟨b,i,none⟩=false:=frozen_of_row w b i _ _ h
theorem Blk.set{b:Nat}{t:TypeId}(h:Blk w b cs t)(i:Nat)(v:Value):Blk (w.setCell ⟨b,i,none⟩ v) b (cs.set i v) t:=by
 have:=heap_setCell_same w b i _ _ v h;unfold Blk;rw[this];simp
theorem Blk.other{b:Nat}{t:TypeId}(h:Blk w b cs t)(a:Addr)(v:Value)(hne:b≠a.block):Blk (w.setCell a v) b cs t:=by
 unfold Blk;rw[heap_setCell_other w a b v hne];exact h
theorem Blk.drewn{b:Nat}{t:TypeId}(h:Blk w b cs t):Blk w.drew b cs t:=h
def mK(w:World)(b n:Nat)(f:Nat→Int):Prop:=∀j,j<n→w.cell? ⟨b,j,none⟩=some (.int .u8 (f j))∧w.frozen? ⟨b,j,none⟩=false
theorem mK.kept{b n:Nat}{f:Nat→Int}(h:mK w b n f)(hb:b<w.heap.size)(hB:Below w.heap.size w w'):mK w' b n f:=fun j hj=>
 ⟨by rw[hB.cell (p:=⟨b,j,none⟩) hb];exact(h j hj).1,by rw[hB.frozen (p:=⟨b,j,none⟩) hb];exact(h j hj).2⟩
theorem mK.drewn{b n:Nat}{f:Nat→Int}(h:mK w b n f):mK w.drew b n f:=h
theorem mK.congr{b n:Nat}{f f':Nat→Int}(h:mK w b n f)(e:∀j,j<n→f j=f' j):mK w b n f':=fun j hj=>⟨by rw[(h j hj).1,e j hj],(h j hj).2⟩
theorem mK.set{b n:Nat}{f:Nat→Int}(h:mK w b n f)(i:Nat)(hi:i<n)(v:Int):mK (w.setCell ⟨b,i,none⟩ (.int .u8 v)) b n (fun j=>if j=i then v else f j):=fun j hj=>by
 refine⟨?_,?_⟩
 ·show _=some (Value.int .u8 (if j=i then v else f j));by_cases e:j=i
  ·subst e;rw[if_pos rfl,World.cell?_setCell_same _ _ _ (h j hj).1]
  ·rw[if_neg e,World.cell?_setCell_other _ _ _ _ (fun h=>e (by simpa using(congrArg Addr.off h).symm)),(h j hj).1]
 ·rw[←(h j hj).2];simp
def Dk(f d:ByteArray)(j:Nat):Int:=if gU f j<gU d j then 0 else (gU f j:Int)-(gU d j:Int)
def Gv(f d:ByteArray):ByteArray:=strOfNums ((List.range f.size).map (Dk f d))
theorem mK.conv{b:Nat}{f d:ByteArray}(h:mK w b f.size (Dk f d))(cap:Nat):
  (convert 22 9 (.slice (some ⟨b,0,none⟩) f.size cap)).run Tryz.prog w=.ok (.string (Gv f d)) w:=by
 refine run_convert_bytes_arg (P:=Tryz.prog) _ 22 5 Tryz.underlying22 Tryz.underlying5 b 0 f.size cap ((List.range f.size).map (Dk f d)) (by simp) ?_ 9 Tryz.underlying9;intro i hi;rw[Nat.zero_add,(h i hi).1];congr 2
 rw[List.getD,List.getElem?_map,List.getElem?_range hi];rfl
theorem jN{b:Nat}{t:TypeId}(h:Blk w b (x0 :: x1 :: x2 :: r) t):w.cell? ⟨b,0,none⟩=some x0∧w.cell? ⟨b,1,none⟩=some x1∧w.cell? ⟨b,2,none⟩=some x2:=⟨h.cell 0 _ rfl,h.cell 1 _ rfl,h.cell 2 _ rfl⟩
theorem wj{b:Nat}{t:TypeId}(h:Blk w b (x0 :: x1 :: x2 :: x3 :: r) t):w.cell? ⟨b,0,none⟩=some x0∧w.cell? ⟨b,1,none⟩=some x1∧w.cell? ⟨b,2,none⟩=some x2∧w.cell? ⟨b,3,none⟩=some x3:=⟨h.cell 0 _ rfl,h.cell 1 _ rfl,h.cell 2 _ rfl,h.cell 3 _ rfl⟩
theorem mS{b:Nat}{t:TypeId}(h:Blk w b (x0 :: x1 :: x2 :: x3 :: x4 :: r) t):w.cell? ⟨b,0,none⟩=some x0∧w.cell? ⟨b,1,none⟩=some x1∧w.cell? ⟨b,2,none⟩=some x2∧w.cell? ⟨b,3,none⟩=some x3∧w.cell? ⟨b,4,none⟩=some x4:=⟨h.cell 0 _ rfl,h.cell 1 _ rfl,h.cell 2 _ rfl,h.cell 3 _ rfl,h.cell 4 _ rfl⟩
theorem fR{b:Nat}{t:TypeId}(h:Blk w b (x0 :: x1 :: x2 :: x3 :: x4 :: x5 :: x6 :: x7 :: x8 :: r) t):w.cell? ⟨b,0,none⟩=some x0∧w.cell? ⟨b,1,none⟩=some x1∧w.cell? ⟨b,2,none⟩=some x2∧w.cell? ⟨b,3,none⟩=some x3∧w.cell? ⟨b,4,none⟩=some x4∧w.cell? ⟨b,5,none⟩=some x5∧w.cell? ⟨b,6,none⟩=some x6∧w.cell? ⟨b,7,none⟩=some x7∧w.cell? ⟨b,8,none⟩=some x8:=⟨h.cell 0 _ rfl,h.cell 1 _ rfl,h.cell 2 _ rfl,h.cell 3 _ rfl,h.cell 4 _ rfl,h.cell 5 _ rfl,h.cell 6 _ rfl,h.cell 7 _ rfl,h.cell 8 _ rfl⟩
theorem gC{b:Nat}{t:TypeId}(h:Blk w b (x0 :: x1 :: x2 :: x3 :: x4 :: x5 :: x6 :: x7 :: x8 :: x9 :: r) t):w.cell? ⟨b,0,none⟩=some x0∧w.cell? ⟨b,1,none⟩=some x1∧w.cell? ⟨b,2,none⟩=some x2∧w.cell? ⟨b,3,none⟩=some x3∧w.cell? ⟨b,4,none⟩=some x4∧w.cell? ⟨b,5,none⟩=some x5∧w.cell? ⟨b,6,none⟩=some x6∧w.cell? ⟨b,7,none⟩=some x7∧w.cell? ⟨b,8,none⟩=some x8∧w.cell? ⟨b,9,none⟩=some x9:=⟨h.cell 0 _ rfl,h.cell 1 _ rfl,h.cell 2 _ rfl,h.cell 3 _ rfl,h.cell 4 _ rfl,h.cell 5 _ rfl,h.cell 6 _ rfl,h.cell 7 _ rfl,h.cell 8 _ rfl,h.cell 9 _ rfl⟩
theorem Co{b:Nat}{t:TypeId}{x10 x11 x12:Value}(h:Blk w b (x0 :: x1 :: x2 :: x3 :: x4 :: x5 :: x6 :: x7 :: x8 :: x9 :: x10 :: x11 :: x12 :: r) t):w.cell? ⟨b,0,none⟩=some x0∧w.cell? ⟨b,1,none⟩=some x1∧w.cell? ⟨b,2,none⟩=some x2∧w.cell? ⟨b,3,none⟩=some x3∧w.cell? ⟨b,4,none⟩=some x4∧w.cell? ⟨b,5,none⟩=some x5∧w.cell? ⟨b,6,none⟩=some x6∧w.cell? ⟨b,7,none⟩=some x7∧w.cell? ⟨b,8,none⟩=some x8∧w.cell? ⟨b,9,none⟩=some x9∧w.cell? ⟨b,10,none⟩=some x10∧w.cell? ⟨b,11,none⟩=some x11∧w.cell? ⟨b,12,none⟩=some x12:=⟨h.cell 0 _ rfl,h.cell 1 _ rfl,h.cell 2 _ rfl,h.cell 3 _ rfl,h.cell 4 _ rfl,h.cell 5 _ rfl,h.cell 6 _ rfl,h.cell 7 _ rfl,h.cell 8 _ rfl,h.cell 9 _ rfl,h.cell 10 _ rfl,h.cell 11 _ rfl,h.cell 12 _ rfl⟩
theorem AG{b:Nat}{t:TypeId}(h:Blk w b cs t):w.frozen? ⟨b,0,none⟩=false∧w.frozen? ⟨b,1,none⟩=false∧w.frozen? ⟨b,2,none⟩=false:=⟨h.free 0,h.free 1,h.free 2⟩
theorem ul{b:Nat}{t:TypeId}(h:Blk w b cs t):w.frozen? ⟨b,0,none⟩=false∧w.frozen? ⟨b,1,none⟩=false∧w.frozen? ⟨b,2,none⟩=false∧w.frozen? ⟨b,3,none⟩=false∧w.frozen? ⟨b,4,none⟩=false:=⟨h.free 0,h.free 1,h.free 2,h.free 3,h.free 4⟩
theorem md{b:Nat}{t:TypeId}(h:Blk w b cs t):w.frozen? ⟨b,0,none⟩=false∧w.frozen? ⟨b,1,none⟩=false∧w.frozen? ⟨b,2,none⟩=false∧w.frozen? ⟨b,3,none⟩=false∧w.frozen? ⟨b,4,none⟩=false∧w.frozen? ⟨b,5,none⟩=false∧w.frozen? ⟨b,6,none⟩=false∧w.frozen? ⟨b,7,none⟩=false∧w.frozen? ⟨b,8,none⟩=false:=⟨h.free 0,h.free 1,h.free 2,h.free 3,h.free 4,h.free 5,h.free 6,h.free 7,h.free 8⟩
theorem gD{b:Nat}{t:TypeId}(h:Blk w b cs t):w.frozen? ⟨b,0,none⟩=false∧w.frozen? ⟨b,1,none⟩=false∧w.frozen? ⟨b,2,none⟩=false∧w.frozen? ⟨b,3,none⟩=false∧w.frozen? ⟨b,4,none⟩=false∧w.frozen? ⟨b,5,none⟩=false∧w.frozen? ⟨b,6,none⟩=false∧w.frozen? ⟨b,7,none⟩=false∧w.frozen? ⟨b,8,none⟩=false∧w.frozen? ⟨b,9,none⟩=false:=⟨h.free 0,h.free 1,h.free 2,h.free 3,h.free 4,h.free 5,h.free 6,h.free 7,h.free 8,h.free 9⟩
end
section
open Go.RowKit
def dz(w:World)(t:TypeId)(g m:Nat)(f:Nat→Value):Prop:=∃cur:Array Value,w.heap[g]? = some (.cells cur t (0,0))∧∀j,j<m→cur[j]? = some (f j)
variable {g hi m:Nat} {f:Nat→Value} {v:Value} {w w':World}
theorem dz.lt{t:TypeId}(h:dz w t g m f):g<w.heap.size:=by
 obtain⟨cur,hc,_⟩:=h;exact(Array.getElem?_eq_some_iff.1 hc).1
theorem dz.same{t:TypeId}(h:dz w t g m f)(e:w'.heap[g]? = w.heap[g]?):dz w' t g m f:=by
 obtain⟨cur,hc,hs⟩:=h;exact⟨cur,by rw[e];exact hc,hs⟩
theorem dz.kept{t:TypeId}(h:dz w t g m f)(hB:Below w.heap.size w w'):dz w' t g m f:=h.same (hB.block g h.lt)
theorem dz.congr{t:TypeId}{f':Nat→Value}(h:dz w t g m f)(e:∀j,j<m→f j=f' j):dz w t g m f':=by
 obtain⟨cur,hc,hs⟩:=h;exact⟨cur,hc,fun j hj=>by rw[hs j hj,e j hj]⟩
theorem dz.cell{t:TypeId}{j:Nat}(h:dz w t g m f)(hj:j<m):w.cell? ⟨g,j,none⟩=some (f j):=by
 obtain⟨cur,hc,hs⟩:=h;rw[cell_of_row w g j cur t _ hc];exact hs j hj
theorem dz.free{t:TypeId}(h:dz w t g m f)(j:Nat):w.frozen? ⟨g,j,none⟩=false:=by
 obtain⟨cur,hc,_⟩:=h;exact frozen_of_row w g j cur t hc
theorem dz.set{t:TypeId}(h:dz w t g m f)(i:Nat)(v:Value):dz (w.setCell ⟨g,i,none⟩ v) t g m (fun j=>if j=i then v else f j):=by
 obtain⟨cur,hc,hs⟩:=h;refine⟨_,heap_setCell_same w g i cur t v hc,fun j hj=>?_⟩;have:=hs j hj;rw[Array.getElem?_setIfInBounds];by_cases e:i=j
 ·subst e;simp[(Array.getElem?_eq_some_iff.1 this).1]
 ·have e':¬j=i:=fun h=>e (Eq.symm h);simp[e,e',this]
structure qf (lo hi:Nat) (w w':World):Prop where
 os:w'.os=w.os
 tape:w'.tape=w.tape
 output:w'.output=w.output
 size:w.heap.size≤w'.heap.size
 block:∀k,k<w.heap.size→(k<lo∨hi≤k)→w'.heap[k]? = w.heap[k]?
theorem qf.refl(lo hi:Nat)(w:World):qf lo hi w w:=⟨rfl,rfl,rfl,Nat.le_refl _,fun _ _ _=>rfl⟩
theorem qf.of{lo:Nat}(h:w.grownBy w' (some g))(h1:lo≤g)(h2:g<hi):qf lo hi w w':=⟨h.os,h.tape,h.output,h.size,fun k hk hne=>h.block k hk (fun e=>by have:=Option.some.inj e;omega)⟩
theorem qf.below{B lo:Nat}{w1 w2:World}(h:Below B w w1)(ha:qf lo hi w1 w2)(h1:B≤lo)(h2:B≤w1.heap.size):Below B w w2:=
 h.trans ⟨ha.os,ha.tape,ha.output,ha.size,fun k hk=>ha.block k (by omega) (.inl (by omega))⟩
def jt(w:World)(t:TypeId)(c lo hi n:Nat)(v:Value)(f:Nat→Value):Prop:=(n=0∧∃a cap,v=.slice a 0 cap)∨∃g cap,v=.slice (some ⟨g,0,none⟩) n cap∧lo≤g∧g<hi∧dz w t g (n*c) f
theorem jt.kept{t:TypeId}{c lo n:Nat}(h:jt w t c lo hi n v f)(hB:Below w.heap.size w w'):jt w' t c lo hi n v f:=by
 rcases h with h | ⟨g,cap,hv,h1,h2,hr⟩
 ·exact .inl h
 ·exact .inr ⟨g,cap,hv,h1,h2,hr.kept hB⟩
theorem jt.apart{t:TypeId}{c lo l h n:Nat}(hp:jt w t c lo hi n v f)(ha:qf l h w w')(hd:hi≤l∨h≤lo):jt w' t c lo hi n v f:=by
 rcases hp with hp | ⟨g,cap,hv,h1,h2,hr⟩
 ·exact .inl hp
 ·exact .inr ⟨g,cap,hv,h1,h2,hr.same (ha.block g hr.lt (by omega))⟩
theorem jt.wide{t:TypeId}{c lo lo' hi' n:Nat}(h:jt w t c lo hi n v f)(h1:lo'≤lo)(h2:hi≤hi'):jt w t c lo' hi' n v f:=by
 rcases h with h | ⟨g,cap,hv,g1,g2,hr⟩
 ·exact .inl h
 ·exact .inr ⟨g,cap,hv,by omega,by omega,hr⟩
theorem jt.of{t:TypeId}{c B n:Nat}{xs:List Value}(h:w.ownsRow B t c v n xs)(hf:∀j,j<n*c→xs[j]? = some (f j)):jt w t c B w.heap.size n v f:=by
 rcases h.2 with ⟨h1,h0⟩ | ⟨g,cap,cur,hv,hb,hg,hnc,hcm,hcs,htake⟩
 ·exact .inl ⟨h0,_,_,h1⟩
 ·refine .inr ⟨g,cap,hv,hb,(Array.getElem?_eq_some_iff.1 hg).1,cur,hg,fun j hj=>?_⟩;have e:=hf j hj;rw[←htake,List.getElem?_take,if_pos hj]at e;simpa using e
end
section
open Go.RowKit Go.Sort
def Gp(su sx sy:Int):Bool:=decide (1≤su∧su≤10000∧0≤sx∧sx≤15*su∧0≤sy∧sy≤11*su)
def focB(fo:Int):Bool:=decide (1≤fo∧fo≤40)
def spX(sx wd su:Int):Int:=2*sx-(wd-1)*su
def spZ(fo su:Int):Int:=2*fo*su
def Gh(su sx sy wd ht:Int)(s:ByteArray)(fo:Int):Bool:=Gp su sx sy&&FN wd ht s&&focB fo
def spI(ok:Bool)(x y z c:Int):Int:=if ok then prI true (gI x y z) c else 0
end
end Go.Proofs.YtdchjcadhlkpfaaGreatDoor
