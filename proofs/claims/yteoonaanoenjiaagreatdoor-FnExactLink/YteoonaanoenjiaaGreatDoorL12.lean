/- Several texts in one: VecL. -/
import Derived.Test.YteoonaanoenjiaaGreatDoorL11
namespace Go.Proofs.YteoonaanoenjiaaGreatDoor
set_option linter.unusedVariables false
set_option linter.unusedSimpArgs false
set_option maxRecDepth 100000
set_option maxHeartbeats 8000000
section
open Go.RowKit Go.Sort
theorem Co{p q r P Q:Int}(h1:-P≤p∧p≤P)(h2:-Q≤q∧q≤Q)(h3:-Q≤r∧r≤Q)(k1:P*P≤9223372036854775807)(k3:Q*Q≤9223372036854775807)(k4:(P*P)*(Q*Q)≤9223372036854775807):
  wrap64 (wrap64 (p*p)*wrap64 (q*r))=p*p*(q*r):=by
 have m1:=bZ h1 h1;have m2:=bZ h2 h3;have m3:=bZ m1 m2;rw[aq (n:=p*p) (by omega) (by omega),aq (n:=q*r) (by omega) (by omega),aq (by omega) (by omega)]
theorem He{a1 a2 a3 b1 b2 b3 c1 c2 c3 d1 d2 d3:Int}(ha:cy a1 a2 a3=true)(hb:cy b1 b2 b3=true)(hc:aN c1 c2 c3=true)(hd:aN d1 d2 d3=true):
  oy a1 a2 a3 b1 b2 b3 c1 c2 c3 d1 d2 d3=rk (bX a1 a2 a3 b1 b2 b3) (bX c1 c2 c3 d1 d2 d3) (wrap64 (wrap64 (bX a1 a2 a3 b1 b2 b3*bX a1 a2 a3 b1 b2 b3)*wrap64 (bX c1 c2 c3 c1 c2 c3*bX d1 d2 d3 d1 d2 d3))) (wrap64 (wrap64 (bX c1 c2 c3 d1 d2 d3*bX c1 c2 c3 d1 d2 d3)*wrap64 (bX a1 a2 a3 a1 a2 a3*bX b1 b2 b3 b1 b2 b3))):=by
 have wa:=(gv ha).2;have wb:=(gv hb).2;have wc:=(fs hc).2;have wd:=(fs hd).2;have pa:=sW (bC.1 (gv ha).1).2;have pb:=sW (bC.1 (gv hb).1).2;have pc:=sW (bC.1 (fs hc).1).2;have pd:=sW (bC.1 (fs hd).1).2;unfold oy;rw[ha,hb,hc,hd,if_pos (by rfl)];rw[dY wa wb (by omega),dY wc wc (by omega),dY wd wd (by omega),dY wc wd (by omega),dY wa wa (by omega),dY wb wb (by omega)];have x1:=dA wa wb;have x2:=dA wc wc;have x3:=dA wd wd;have x4:=dA wc wd;have x5:=dA wa wa;have x6:=dA wb wb;rw[Co (P:=9720000) (Q:=300) (by omega) (by omega) (by omega) (by omega) (by omega) (by omega),Co (P:=300) (Q:=9720000) (by omega) (by omega) (by omega) (by omega) (by omega) (by omega)];exact(EJ (Int.mul_pos pc pd) (Int.mul_pos pa pb)).symm
end
end Go.Proofs.YteoonaanoenjiaaGreatDoor
