/- Several texts in one: Tz, Tq, Plain, VecMath, VecA, SkyA, SkyMath, VecB, VecC, VecD, VecF, VecG, VecE, VecH, FrA. -/
import Derived.Deep.RegionHeld
import Derived.WalkKit
import Derived.Lib.QuietBelow
import Derived.Laws.BitsAllLaws
import Derived.Test.YtdchjcadhlkpfaaGreatDoorChecked
import Derived.Below
import Derived.Laws.StructEq
import Derived.WalkLawsBesides
import Derived.LaidEql
import Derived.Stop.Asserts
import Derived.RowKitTokens
import Derived.Deep.RegionWith
import Derived.Deep.QuietTactic
import Derived.BigQuiet
import Derived.BigRegion
namespace Go.Proofs.YtdchjcadhlkpfaaGreatDoor
set_option linter.unusedVariables false
set_option linter.unusedSimpArgs false
set_option maxRecDepth 100000
set_option maxHeartbeats 8000000
section
variable {listed:Array Bool} {ops:Array Oper} {fuel:Nat} {P:Program} {w:World}
theorem ac{Q:Exit→Act→World→Prop}{md:Region.Mode}{S:World→Prop}{a:Act}(i:Nat){oi:Oper}{v:Value}(hi:ops[i]? = some oi)(h:wpAnyH P md ops Q S fuel (listed.setIfInBounds i true) (a.put oi.dst v) w)(hs:Region.noSelect ops=true:=by kernel_rfl)(hf:Region.free md ops listed i=true:=by kernel_rfl)(hr:(Region.ready md ops listed).contains i=true:=by kernel_rfl)(hQ:∀c a w,Q (.panic c) (a.put oi.dst v) w→Q (.panic c) a w:=by exact fun _ _ _ h=>h)(hw:Region.wanted oi (yielded ops a.tmps)=true:=by kernel_rfl)(hy:∀w,S w→(execOp a.eval oi).run P w=.ok (.value v) w:=by (intro W0 hSw;(try dsimp only at hSw);go_simp<;>with_reducible rfl))(hS:S w:=by assumption):wpAnyH P md ops Q S (fuel+1) listed a w:=wpAnyH_take hi hs hf hr hQ (Or.inl ⟨hw,hy⟩) hS h
theorem af{Q:Exit→Act→World→Prop}{md:Region.Mode}{S:World→Prop}{a:Act}(i:Nat){o:Oper}(ho:ops[i]? = some o)(h:(∀K':Act→World→Prop,Shut (∀a w,S w→(S w→wpAnyH P md ops Q S fuel (listed.setIfInBounds i true) a w)→K' a w)→if Region.wanted o (yielded ops a.tmps)=true then Oper.wp P o a w K' Q else K' (a.put o.dst undef) w))(hr:Region.ready md ops listed=[i]:=by kernel_rfl):wpAnyH P md ops Q S (fuel+1) listed a w:=wpAnyH_ready hr (by simp) (AllReadyH.cons ho h AllReadyH.nil)
theorem ag{Q:Exit→Act→World→Prop}{md:Region.Mode}{S:World→Prop}{a:Act}(i j:Nat){o u:Oper}(ho:ops[i]? = some o)(h:(∀K':Act→World→Prop,Shut (∀a w,S w→(S w→wpAnyH P md ops Q S fuel (listed.setIfInBounds i true) a w)→K' a w)→if Region.wanted o (yielded ops a.tmps)=true then Oper.wp P o a w K' Q else K' (a.put o.dst undef) w))(hu:ops[j]? = some u)(g:(∀K':Act→World→Prop,Shut (∀a w,S w→(S w→wpAnyH P md ops Q S fuel (listed.setIfInBounds j true) a w)→K' a w)→if Region.wanted u (yielded ops a.tmps)=true then Oper.wp P u a w K' Q else K' (a.put u.dst undef) w))(hr:Region.ready md ops listed=[i,j]:=by kernel_rfl):wpAnyH P md ops Q S (fuel+1) listed a w:=wpAnyH_ready hr (by simp) (AllReadyH.cons ho h (AllReadyH.cons hu g AllReadyH.nil))
theorem ah{α:Type}(i:Nat)(x:α)(l:List α):l.toArray.setIfInBounds i x=(l.set i x).toArray:=List.setIfInBounds_toArray ..
theorem ai{α:Type}(x y:α)(l:List α):(x :: l).set 0 y=y :: l:=rfl
theorem aj{α:Type}(x y:α)(l:List α)(n:Nat):(x :: l).set (n+1) y=x :: l.set n y:=rfl
end
section
open Go.RowKit Go.Sort
variable {P:Program} {w:World}
theorem dg{id:Nat}{Q:Exit→Act→World→Prop}{a:Act}{l:List Oper}(h:wpQuiet P l.toArray (fun w'=>∃p:Regrown,w'=grow (redrawn w p.d) p.os) (fun a'=>∀w',(∃p:Regrown,w'=grow (redrawn w p.d) p.os)→Q .normal a' w') l a)(hm:P.follows .mixedOrders=true:=by kernel_rfl)(hB:Region.lexB .any l.toArray=true:=by kernel_rfl):(Code.region id l.toArray true).wp P Q a w:=wp_region_quiet_below hm hB h
theorem dv{ops:Array Oper}{Q:Act→World→Prop}{a:Act}(h:∀d o,Q a (grow (redrawn w d) o)):wpQuiet P ops (fun w'=>∃p:Regrown,w'=grow (redrawn w p.d) p.os) (fun a'=>∀w',(∃p:Regrown,w'=grow (redrawn w p.d) p.os)→Q a' w') [] a:=fun _ ⟨p,e⟩=>e ▸ h p.d p.os
theorem aO{f:FuncId}{args:Array Value}{d:Nat}{os:Array Obj}{v:Value}(h:Hid (∀w,Calls P f args w fun e w'=>e=.returned v∧Below w.heap.size w w')):Calls P f args (grow (redrawn w d) os) fun e w''=>e=.returned v∧∃p:Regrown,w''=grow (redrawn w p.d) p.os:=Calls.regrown_of (h _)
end
section
open Go.RowKit
variable {p q:Prop}
theorem yz(h:p):Hid p:=h
theorem yy(h:Hid p):p:=h
theorem ap{k:Prop}(h:Hid p)(x:k)(f:p→k→q:=by exact fun h x=>h.kept x):Hid q:=yz (f (yy h) x)
theorem aQ{k l:Prop}(h:Hid p)(x:k)(y:l)(f:p→k→l→q:=by exact fun h x y=>(h.kept x).kept y):Hid q:=yz (f (yy h) x y)
def gU(s:ByteArray)(i:Nat):Nat:=if h:i<s.size then s[i].toNat else 0
theorem kD{s:ByteArray}{k:Nat}(h:k<s.size):gU s k=s[k].toNat:=by simp[gU,h]
end
section
open Go.RowKit
def inB(m x:Int):Bool:=decide (-m≤x∧x≤m)
def aR(m x y z:Int):Bool:=inB m x&&inB m y&&inB m z
def ij(x y z:Int):Bool:=decide (x=0∧y=0∧z=0)
def aA(x y z:Int):Bool:=aR 1000000 x y z && !ij x y z
variable {a1 a2 a3 b1 b2 b3 m x y z:Int}
theorem il:inB m x=true↔-m≤x∧x≤m:=by simp[inB]
theorem aW:aR m x y z=true↔(-m≤x∧x≤m)∧(-m≤y∧y≤m)∧(-m≤z∧z≤m):=by
 simp[aR,il,and_assoc]
theorem bz:aA x y z=true↔((-1000000≤x∧x≤1000000)∧(-1000000≤y∧y≤1000000)∧(-1000000≤z∧z≤1000000))∧¬(x=0∧y=0∧z=0):=by
 unfold aA;rw[Bool.and_eq_true,aW];simp only[ij,Bool.not_eq_true',decide_eq_false_iff_not]
theorem au{n:Int}(h0:-9223372036854775808≤n)(h1:n≤9223372036854775807):wrap64 n=n:=by
 exact Go.IntWalk.wrap64_in n ⟨h0,h1⟩
theorem bR{a b A B:Int}(h1:-A≤a∧a≤A)(h3:-B≤b∧b≤B):-(A*B)≤a*b∧a*b≤A*B:=by
 have h:(a*b).natAbs≤A.natAbs*B.natAbs:=by
  rw[Int.natAbs_mul];exact Nat.mul_le_mul (by omega) (by omega)
 have:((A.natAbs*B.natAbs:Nat):Int)=A*B:=by
  rw[Int.natCast_mul,Int.natAbs_of_nonneg (by omega),Int.natAbs_of_nonneg (by omega)]
 omega
def bG(a1 a2 a3 b1 b2 b3:Int):Int:=wrap64 (wrap64 (wrap64 (a1*b1)+wrap64 (a2*b2))+wrap64 (a3*b3))
def dot(a1 a2 a3 b1 b2 b3:Int):Int:=a1*b1+a2*b2+a3*b3
def crW(a2 a3 b2 b3:Int):Int:=wrap64 (wrap64 (a2*b3)-wrap64 (a3*b2))
theorem te(a1 a2 a3 b1 b2 b3:Int):bG a1 a2 a3 b1 b2 b3=bG b1 b2 b3 a1 a2 a3:=by
 unfold bG;rw[Int.mul_comm a1,Int.mul_comm a2,Int.mul_comm a3]
theorem dF{A B:Int}(ha:aR A a1 a2 a3=true)(hb:aR B b1 b2 b3=true):-(3*(A*B))≤dot a1 a2 a3 b1 b2 b3∧dot a1 a2 a3 b1 b2 b3≤3*(A*B):=by
 rw[aW]at ha hb;have h1:=bR ha.1 hb.1;have h2:=bR ha.2.1 hb.2.1;have h3:=bR ha.2.2 hb.2.2;unfold dot;omega
theorem dU{A B:Int}(ha:aR A a1 a2 a3=true)(hb:aR B b1 b2 b3=true)(h:3*(A*B)≤9223372036854775807):bG a1 a2 a3 b1 b2 b3=dot a1 a2 a3 b1 b2 b3:=by
 rw[aW]at ha hb;have h1:=bR ha.1 hb.1;have h2:=bR ha.2.1 hb.2.1;have h3:=bR ha.2.2 hb.2.2;unfold bG dot;rw[au (n:=a1*b1) (by omega) (by omega),au (n:=a2*b2) (by omega) (by omega),au (n:=a3*b3) (by omega) (by omega),au (n:=a1*b1+a2*b2) (by omega) (by omega),au (by omega) (by omega)]
theorem eO{A B:Int}(h2:-A≤a2∧a2≤A)(h3:-A≤a3∧a3≤A)(k2:-B≤b2∧b2≤B)(k3:-B≤b3∧b3≤B)(h:2*(A*B)≤9223372036854775807):
  crW a2 a3 b2 b3=a2*b3-a3*b2∧-(2*(A*B))≤a2*b3-a3*b2∧a2*b3-a3*b2≤2*(A*B):=by
 have h1:=bR h2 k3;have h2:=bR h3 k2;unfold crW;rw[au (n:=a2*b3) (by omega) (by omega),au (n:=a3*b2) (by omega) (by omega),au (by omega) (by omega)];omega
def ur(a1 a2 a3 b1 b2 b3:Int):Int:=if aA a1 a2 a3&&aA b1 b2 b3 then bG a1 a2 a3 b1 b2 b3 else 0
def crI(r:Bool)(a2 a3 b2 b3:Int):Int:=if r then crW a2 a3 b2 b3 else 0
def rY(a1 a2 a3 b1 b2 b3 c1 c2 c3:Int):Int:=
 if aA a1 a2 a3&&aA b1 b2 b3&&aA c1 c2 c3 then bG (crW a2 a3 b2 b3) (crW a3 a1 b3 b1) (crW a1 a2 b1 b2) c1 c2 c3 else 0
def gI(x y z:Int):Int:=((Int.gcd (Int.gcd x y:Int) z:Nat):Int)
def prI(r:Bool)(g x:Int):Int:=if r then wrap64 (x.tdiv g) else 0
def eb(a1 a2 a3 b1 b2 b3:Int):Bool:=
 aA a1 a2 a3&&aA b1 b2 b3&&ij (crW a2 a3 b2 b3) (crW a3 a1 b3 b1) (crW a1 a2 b1 b2)&&decide (0<bG a1 a2 a3 b1 b2 b3)
theorem wH(a b:Int):Int.gcd b (a.tmod b)=Int.gcd a b:=by
 show Nat.gcd b.natAbs (a.tmod b).natAbs=Nat.gcd a.natAbs b.natAbs;rw[Int.natAbs_tmod,Nat.gcd_comm b.natAbs,←Nat.gcd_rec,Nat.gcd_comm]
theorem wI(a:Int):((Int.gcd a 0:Nat):Int)=if a<0 then -a else a:=by
 rw[Int.gcd_zero_right];split<;>omega
theorem vK(a b:Int)(h:b≠0):(a.tmod b).natAbs<b.natAbs:=by
 rw[Int.natAbs_tmod];exact Nat.mod_lt _ (by omega)
theorem mg{a b:Int}(ha:-m≤a∧a≤m)(hb:-m≤b∧b≤m):0≤((Int.gcd a b:Nat):Int)∧((Int.gcd a b:Nat):Int)≤m:=by
 refine⟨by omega,?_⟩;by_cases h:a=0
 ·subst h;rw[Int.gcd_zero_left];omega
 ·have:=Nat.le_of_dvd (by omega) (Nat.gcd_dvd_left a.natAbs b.natAbs);have e:Int.gcd a b=Nat.gcd a.natAbs b.natAbs:=rfl;omega
theorem AY(x y z:Int):((Int.gcd ((Int.gcd ((Int.gcd 0 x:Nat):Int) y:Nat):Int) z:Nat):Int)=gI x y z:=by
 unfold gI
 have:Int.gcd ((Int.gcd 0 x:Nat):Int) y=Int.gcd x y:=by
  rw[Int.gcd_zero_left];show Nat.gcd (x.natAbs:Int).natAbs y.natAbs=Nat.gcd x.natAbs y.natAbs;rw[Int.natAbs_natCast]
 rw[this]
theorem CP(h:aA x y z=true):0<gI x y z:=by
 rw[bz]at h;unfold gI
 have h2:Int.gcd ((Int.gcd x y:Nat):Int) z≠0:=by
  intro e;rw[Int.gcd_eq_zero_iff]at e;have e1:Int.gcd x y=0:=by omega
  rw[Int.gcd_eq_zero_iff]at e1;exact h.2 ⟨e1.1,e1.2,e.2⟩
 omega
theorem oS(h:¬(x=0∧y=0∧z=0)):0<dot x y z x y z:=by
 unfold dot;have hx:0≤x*x:=by rw[←Int.natAbs_mul_self' x];exact Int.natCast_nonneg _
 have hy:0≤y*y:=by rw[←Int.natAbs_mul_self' y];exact Int.natCast_nonneg _
 have hz:0≤z*z:=by rw[←Int.natAbs_mul_self' z];exact Int.natCast_nonneg _
 by_cases h1:x=0
 ·by_cases h2:y=0
  ·have h3:z≠0:=fun e=>h ⟨h1,h2,e⟩;have:z*z≠0:=fun e=>by rcases Int.mul_eq_zero.1 e with e | e<;>exact h3 e
   omega
  ·have:y*y≠0:=fun e=>by rcases Int.mul_eq_zero.1 e with e | e<;>exact h2 e
   omega
 ·have:x*x≠0:=fun e=>by rcases Int.mul_eq_zero.1 e with e | e<;>exact h1 e
  omega
def sgn(n:Int):Int:=if n<0 then -1 else if 0<n then 1 else 0
def ic(a b:Int):Int:=if a<b then -1 else if b<a then 1 else 0
def ssq(n:Int):Int:=if n<0 then -n*n else n*n
def pM(n:Int):Int:=if n<0 then wrap64 (wrap64 (-n)*n) else wrap64 (n*n)
def dy(x y z:Int):Bool:=aA x y z&&aR 1800 x y z
def aU(x y z:Int):Bool:=aA x y z&&aR 10 x y z
def oq(a1 a2 a3 b1 b2 b3 c1 c2 c3 d1 d2 d3:Int):Int:=
 if dy a1 a2 a3&&dy b1 b2 b3&&aU c1 c2 c3&&aU d1 d2 d3 then
  ic (ssq (dot a1 a2 a3 b1 b2 b3)*(dot c1 c2 c3 c1 c2 c3*dot d1 d2 d3 d1 d2 d3)) (ssq (dot c1 c2 c3 d1 d2 d3)*(dot a1 a2 a3 a1 a2 a3*dot b1 b2 b3 b1 b2 b3))
 else 0
theorem Cx{c1 c2 c3 d1 d2 d3:Int}(ha:aR 1800 a1 a2 a3=true)(hb:aR 1800 b1 b2 b3=true)(hc:aR 10 c1 c2 c3=true)(hd:aR 10 d1 d2 d3=true):
  wrap64 (pM (bG a1 a2 a3 b1 b2 b3)*wrap64 (bG c1 c2 c3 c1 c2 c3*bG d1 d2 d3 d1 d2 d3))=ssq (dot a1 a2 a3 b1 b2 b3)*(dot c1 c2 c3 c1 c2 c3*dot d1 d2 d3 d1 d2 d3) ∧
  wrap64 (pM (bG c1 c2 c3 d1 d2 d3)*wrap64 (bG a1 a2 a3 a1 a2 a3*bG b1 b2 b3 b1 b2 b3))=ssq (dot c1 c2 c3 d1 d2 d3)*(dot a1 a2 a3 a1 a2 a3*dot b1 b2 b3 b1 b2 b3):=by
 rw[dU ha hb (by omega),dU hc hc (by omega),dU hd hd (by omega),dU hc hd (by omega),dU ha ha (by omega),dU hb hb (by omega)];have x1:=dF ha hb;have x2:=dF hc hc;have x3:=dF hd hd;have x4:=dF hc hd;have x5:=dF ha ha;have x6:=dF hb hb;generalize dot a1 a2 a3 b1 b2 b3=p1 at *;generalize dot c1 c2 c3 c1 c2 c3=p2 at *;generalize dot d1 d2 d3 d1 d2 d3=p3 at *;generalize dot c1 c2 c3 d1 d2 d3=p4 at *;generalize dot a1 a2 a3 a1 a2 a3=p5 at *;generalize dot b1 b2 b3 b1 b2 b3=p6 at *
 have key:∀(p q r P Q:Int),(-P≤p∧p≤P)→(-Q≤q∧q≤Q)→(-Q≤r∧r≤Q)→P*P≤9223372036854775807→P≤9223372036854775807→Q*Q≤9223372036854775807→(P*P)*(Q*Q)≤9223372036854775807 →
   wrap64 (pM p*wrap64 (q*r))=ssq p*(q*r):=by
  intro p q r P Q h1 h2 h3 k1 k2 k3 k4;have m1:=bR h1 h1;have m2:=bR h2 h3
  have e:pM p=ssq p:=by
   unfold pM ssq;split
   ·rw[au (n:=-p) (by omega) (by omega)];have:-p*p = -(p*p):=by grind
    rw[au (by omega) (by omega)]
   ·rw[au (by omega) (by omega)]
  have b:-(P*P)≤ssq p∧ssq p≤P*P:=by
   unfold ssq;have:-p*p = -(p*p):=by grind
   split<;>omega
  have m3:=bR b m2;rw[e,au (n:=q*r) (by omega) (by omega),au (by omega) (by omega)]
 exact⟨key p1 p2 p3 9720000 300 (by omega) (by omega) (by omega) (by omega) (by omega) (by omega) (by omega),key p4 p5 p6 300 9720000 (by omega) (by omega) (by omega) (by omega) (by omega) (by omega) (by omega)⟩
theorem vj{a b:Int}(h:a<b):ic a b = -1:=by simp[ic,h]
theorem vi{a b:Int}(h:b<a):ic a b=1:=by unfold ic;rw[if_neg (by omega),if_pos h]
theorem lE(h:x<0):ssq x = -(x*x):=by unfold ssq;rw[if_pos h];grind
theorem lF(h:0≤x):ssq x=x*x:=by unfold ssq;rw[if_neg (by omega)]
theorem ip(h:x<0):sgn x = -1:=by simp[sgn,h]
theorem iq(h:0<x):sgn x=1:=by unfold sgn;rw[if_neg (by omega),if_pos h]
theorem nL:sgn 0=0:=by simp[sgn]
def qt(x y p q:Int):Int:=
 if sgn x≠sgn y then sgn (wrap64 (sgn x-sgn y)) else if p<q then wrap64 (-sgn x) else if q<p then sgn x else 0
theorem Cy{L M:Int}(hL:0<L)(hM:0<M):qt x y (x*x*L) (y*y*M)=ic (ssq x*L) (ssq y*M):=by
 have sq:∀ {x L:Int},x≠0→0<L→0<x*x*L:=fun {x L} h hL=>by
  have h0:0≤x*x:=by rw[←Int.natAbs_mul_self' x];exact Int.natCast_nonneg _
  have:x*x≠0:=fun e=>by rcases Int.mul_eq_zero.1 e with e | e<;>exact h e
  exact Int.mul_pos (by omega) hL
 have xL:x≠0→0<x*x*L:=fun h=>sq h hL;have yM:y≠0→0<y*y*M:=fun h=>sq h hM;have nx:-(x*x)*L = -(x*x*L):=by grind
 have ny:-(y*y)*M = -(y*y*M):=by grind
 have w1:wrap64 (-1) = -1:=au (by omega) (by omega);have w2:wrap64 (-2) = -2:=au (by omega) (by omega);have w3:wrap64 1=1:=au (by omega) (by omega);have w4:wrap64 2=2:=au (by omega) (by omega);have z0:ssq 0=0:=by simp[ssq]
 unfold qt;rcases Int.lt_trichotomy x 0 with hx0 | hx0 | hx0<;>rcases Int.lt_trichotomy y 0 with hy0 | hy0 | hy0
 ·rw[ip hx0,ip hy0,lE hx0,lE hy0,nx,ny,if_neg (by simp),show (-(-1):Int)=1 from rfl,w3];unfold ic;split
  ·rw[if_neg (by omega),if_pos (by omega)]
  ·split
   ·rw[if_pos (by omega)]
   ·rw[if_neg (by omega),if_neg (by omega)]
 ·subst hy0;have:=xL (by omega);rw[ip hx0,nL,lE hx0,z0,nx,vj (by omega),if_pos (by simp),show (-1-0:Int) = -1 from rfl,w1,ip (by omega)]
 ·have:=xL (by omega);have:=yM (by omega);rw[ip hx0,iq hy0,lE hx0,lF (by omega),nx,vj (by omega),if_pos (by simp),show (-1-1:Int) = -2 from rfl,w2,ip (by omega)]
 ·subst hx0;have:=yM (by omega);rw[ip hy0,nL,lE hy0,z0,ny,vi (by omega),if_pos (by simp),show (0 - -1:Int)=1 from rfl,w3,iq (by omega)]
 ·subst hx0;subst hy0
  simp[ic,ssq,sgn]
 ·subst hx0;have:=yM (by omega);rw[iq hy0,nL,lF (x:=y) (by omega),z0,vj (by omega),if_pos (by simp),show (0-1:Int) = -1 from rfl,w1,ip (by omega)]
 ·have:=xL (by omega);have:=yM (by omega);rw[iq hx0,ip hy0,lE hy0,lF (by omega),ny,vi (by omega),if_pos (by simp),show (1 - -1:Int)=2 from rfl,w4,iq (by omega)]
 ·subst hy0;have:=xL (by omega);rw[iq hx0,nL,lF (x:=x) (by omega),z0,vi (by omega),if_pos (by simp),show (1-0:Int)=1 from rfl,w3,iq (by omega)]
 ·rw[iq hx0,iq hy0,lF (x:=x) (by omega),lF (x:=y) (by omega),if_neg (by simp),w1];rfl
end
section
open Go.Value renaming int → J
open Go.IntKind renaming i64 → Z
open Go.RowKit
theorem an(w:World)(a:Obj):Below w.heap.size w (w.alloc a):=(Below.refl _ _).alloc (Nat.le_refl _) _
theorem aX(w:World)(a b:Obj):Below w.heap.size w ((w.alloc a).alloc b):=(an w a).alloc (by simp) _
theorem eC(w:World)(a b c:Obj):Below w.heap.size w (((w.alloc a).alloc b).alloc c):=(aX w a b).alloc (by simp;omega) _
variable {w w1 w2:World}
theorem ak(h:Below w.heap.size w w1)(h2:Below w1.heap.size w1 w2):Below w.heap.size w w2:=h.trans (h2.mono h.size)
theorem ax(h:Hid (Below w.heap.size w w1))(x:Below w1.heap.size w1 w2):Hid (Below w.heap.size w w2):=yz (ak (yy h) x)
theorem tO(x y z:Int)(w:World):
  Calls Tryz.prog 168 #[.agg #[J Z x,J Z y,J Z z]] w fun e w'=>e=.returned (.agg #[J Z x,J Z y,J Z z])∧Below w.heap.size w w':=by
 go_enter Tryz.func168,Tryz.ntmps168;go_wp2;exact bodyPost_ret (v:=.agg #[J Z x,J Z y,J Z z]) (by simp[results,Tryz.results168,go_sem]) rfl ⟨rfl,aX _ _ _⟩
theorem oT(a1 a2 a3 b1 b2 b3:Int)(w:World):
  Calls Tryz.prog 196 #[.agg #[J Z a1,J Z a2,J Z a3],.agg #[J Z b1,J Z b2,J Z b3]] w fun e w'=>e=.returned (J Z (bG a1 a2 a3 b1 b2 b3))∧Below w.heap.size w w':=by
 go_enter Tryz.func196,Tryz.ntmps196;go_wp2;go_ret;exact⟨rfl,aX _ _ _⟩
theorem fU(a1 a2 a3 b1 b2 b3:Int)(w:World):
  Calls Tryz.prog 73 #[.agg #[J Z a1,J Z a2,J Z a3],.agg #[J Z b1,J Z b2,J Z b3]] w fun e w'=>e=.returned (J Z (bG a1 a2 a3 b1 b2 b3))∧Below w.heap.size w w':=by
 go_enter Tryz.func73,Tryz.ntmps73;go_wp2;go_ret;exact⟨rfl,aX _ _ _⟩
theorem eh(n lo hi:Int)(w:World):
  Calls Tryz.prog 29 #[J Z n,J Z lo,J Z hi] w fun e w'=>e=.returned (.bool (decide (lo≤n)&&decide (n≤hi)))∧w'=w:=by
 by_cases h:lo≤n
 ·go_enter Tryz.func29,Tryz.ntmps29;go_wp2;go_ret;exact⟨by simp[h],rfl⟩
 ·go_enter Tryz.func29,Tryz.ntmps29;go_wp2;go_ret;exact⟨by simp;omega,rfl⟩
end
section
open Go.RowKit Go.Extern.Stop Go.Stop Go.Extern
theorem CW(v:Value)(w:World):(Extern.ReflectliteType.typeOf #[.iface 267 v]).run Tryz.prog w=.ok (.iface 217 (.agg #[.pointer (some ⟨7,267,none⟩)])) w:=by kernel_rfl
theorem uD(w:World):(callFunc 238 #[.agg #[.pointer (some ⟨7,267,none⟩)]]).run Tryz.prog w=.ok (Next.value (.bool true)) w:=
 (@run_callFunc_extern Tryz.prog 238 _ (Extern.ReflectliteType.method fun t => do Extern.Rtype.noPackHeld "Comparable" t; pure (.bool (← typeInfo t).comparable)) Tryz.func238 (by kernel_rfl) (by kernel_rfl) (by kernel_rfl) (by kernel_rfl) _ w).trans (by kernel_rfl)
theorem mo (v : Value) (w : World) : (Go.method 402 217 v "Comparable").run Tryz.prog w = .ok (238, v) w := by kernel_rfl
theorem FR:(Tryz.prog.info? 267).map (·.comparable)=some true:=by kernel_rfl
theorem FS:(Tryz.prog.info? 291).map (·.size)=some 1:=by kernel_rfl
theorem Gy(v:Value)(xT:TypeId)(w:World):(Instr.typeAssert (.iface 204 v) xT 219 true).run Tryz.prog w=.ok (.tuple #[.nilIface,.bool false]) w:=run_typeAssert_lacksB Tryz.underlying219 (by kernel_rfl) (by kernel_rfl) v xT w
theorem yN(v:Value)(xT:TypeId)(w:World):(Instr.typeAssert (.iface 204 v) xT 222 true).run Tryz.prog w=.ok (.tuple #[.iface 204 v,.bool true]) w:=run_typeAssert_hasB Tryz.underlying222 (by kernel_rfl) v xT w
theorem uT (v : Value) (w : World) : (Go.method 402 204 v "Unwrap").run Tryz.prog w = .ok (234, v) w := by kernel_rfl
def bE(b:Addr)(w:World):Prop:=w.cell? ⟨1,0,none⟩=some (.iface 267 (.pointer (some b)))
variable {w:World}
theorem bE.lt{b:Addr}(h:bE b w):1<w.heap.size:=World.block_lt_of_cell? w _ h
theorem bE.kept{b:Addr}{w':World}(h:bE b w)(hB:Below w.heap.size w w'):bE b w':=by
 unfold bE;rw[hB.cell (p:=⟨1,0,none⟩) h.lt];exact h
theorem FT(b:Addr)(w:World):
  Calls Tryz.prog 123 #[.nilIface,.iface 267 (.pointer (some b))] w fun e w'=>e=.returned (.bool false)∧w'=w:=by
 have hn:=run_eql_iface_nil_left (P:=Tryz.prog) w 267 (.pointer (some b)) Tryz.underlying162;go_enter Tryz.func123,Tryz.ntmps123;go_wp2;go_ret;exact⟨rfl,rfl⟩
theorem zJ(why:ByteArray)(b:Addr)(w:World)(h:bE b w):
  Calls Tryz.prog 234 #[.agg #[.string why]] w fun e w'=>e=.returned (.iface 267 (.pointer (some b)))∧Below w.heap.size w w':=by
 have h':bE b (w.alloc (.cells #[.string why] 204)):=h.kept (an _ _);unfold bE at h';go_enter Tryz.func234,Tryz.ntmps234;go_wp2;go_ret;exact⟨rfl,an _ _⟩
theorem CX(why:ByteArray)(b:Addr)(w:World)(h:bE b w):
  Calls Tryz.prog 123 #[.iface 204 (.agg #[.string why]),.iface 267 (.pointer (some b))] w fun e w'=>e=.returned (.bool true)∧Below w.heap.size w w':=by
 obtain⟨i,hi,hcmp⟩:=Option.map_eq_some_iff.1 FR;obtain⟨j,hj,hjs⟩:=Option.map_eq_some_iff.1 FS;have h8:=@run_callFunc_extern Tryz.prog 156 _ Extern.ReflectliteType.typeOf Tryz.func156 (by kernel_rfl) (by kernel_rfl) (by kernel_rfl) (by kernel_rfl);have tT:=CW;have cT:=uD;have mR:=mo;have nW:=Gy;have uW:=yN;have mU:=uT;have heq:=fun w=>run_eql_iface_ptr_same (P:=Tryz.prog) w b Tryz.underlying162 Tryz.underlying267 hi hcmp hj;have hty:=fun w=>run_eql_iface_types (P:=Tryz.prog) 204 267 (.agg #[.string why]) (.pointer (some b)) Tryz.underlying162 (by decide) w;have HE:=yz h;clear h;go_enter Tryz.func123,Tryz.ntmps123;go_wp2;refine wp_loop_rounds 2 ?_;rw[rounds_succ];go_wp2_with (go_at_call 234;refine(zJ why b _ (yy HE)).mono ?_;rintro e w1 ⟨rfl,hx⟩);rw[rounds_succ];go_wp2;go_ret;exact⟨rfl,hx⟩
end
section
open Go.RowKit
abbrev St:=Int×Int×Int×Int
def stC(s:St):List Value:=[.int .i64 s.1,.int .i64 s.2.1,.int .i64 s.2.2.1,.int .i64 s.2.2.2]
def stA(L:List St)(i:Nat):St:=L.getD i (0,0,0,0)
def idB(n:Int):Bool:=decide (1≤n)&&decide (n≤9999)
def upB(L:List St)(i:Nat):Bool:=decide (i=0) || decide ((stA L (i-1)).1<(stA L i).1)
def eqI(a1 a2 a3 b1 b2 b3:Int):Bool:=decide (a1=b1∧a2=b2∧a3=b3)
def fG(x y z:Int):Bool:=eqI x y z (prI (aA x y z) (gI x y z) x) (prI (aA x y z) (gI x y z) y) (prI (aA x y z) (gI x y z) z)
def pp(p q:St):Bool:=eb p.2.1 p.2.2.1 p.2.2.2 q.2.1 q.2.2.1 q.2.2.2
def ow(L:List St)(s:St)(k:Nat):Prop:=∀j,j<k→pp s (stA L j)=false
def fq(L:List St)(s:St)(n:Nat):Bool:=(List.range n).any fun j=>pp s (stA L j)
def eV(L:List St)(i:Nat):Bool:=
 idB (stA L i).1&&upB L i&&(aU (stA L i).2.1 (stA L i).2.2.1 (stA L i).2.2.2&&fG (stA L i).2.1 (stA L i).2.2.1 (stA L i).2.2.2) && !fq L (stA L i) i
def vf(L:List St)(k:Nat):Prop:=∀j,j<k→eV L j=true
def bc(L:List St):Bool:=decide (L.length≤12)&&(List.range L.length).all (eV L)
theorem rS{L:List St}{s:St}{n:Nat}(h:ow L s n):fq L s n=false:=by
 unfold fq;rw[List.any_eq_false];intro j hj;rw[h j (List.mem_range.1 hj)];simp
theorem ua{L:List St}{s:St}{n j:Nat}(hj:j<n)(h:pp s (stA L j)=true):fq L s n=true:=by
 unfold fq;rw[List.any_eq_true];exact⟨j,List.mem_range.2 hj,h⟩
theorem tr{L:List St}{s:St}{k:Nat}(h:ow L s k)(h1:pp s (stA L k)=false):ow L s (k+1):=by
 intro j hj;by_cases e:j=k
 ·rw[e];exact h1
 ·exact h j (by omega)
theorem vg{L:List St}{k:Nat}(h:vf L k)(h1:eV L k=true):vf L (k+1):=by
 intro j hj;by_cases e:j=k
 ·rw[e];exact h1
 ·exact h j (by omega)
theorem vq{L:List St}(hl:L.length≤12)(h:vf L L.length):bc L=true:=by
 unfold bc;rw[Bool.and_eq_true,List.all_eq_true];exact⟨by simpa using hl,fun j hj=>h j (List.mem_range.1 hj)⟩
theorem jl{L:List St}{k:Nat}(hk:k<L.length)(h:eV L k=false):bc L=false:=by
 unfold bc
 have:(List.range L.length).all (eV L)=false:=by
  rw[List.all_eq_false];exact⟨k,List.mem_range.2 hk,by rw[h];simp⟩
 rw[this,Bool.and_false]
theorem DU{L:List St}(hl:12<L.length):bc L=false:=by
 unfold bc;rw[show decide (L.length≤12)=false by simp;omega,Bool.false_and]
theorem cg{L:List St}(h:bc L=true):L.length≤12∧vf L L.length:=by
 unfold bc at h;rw[Bool.and_eq_true,List.all_eq_true]at h;exact⟨by simpa using h.1,fun j hj=>h.2 j (List.mem_range.2 hj)⟩
theorem fM{L:List St}{i:Nat}(h:eV L i=true):aU (stA L i).2.1 (stA L i).2.2.1 (stA L i).2.2.2=true:=by
 unfold eV at h;simp only[Bool.and_eq_true]at h;exact h.1.2.1
theorem bI{x y z:Int}(h:aU x y z=true):aA x y z=true∧aR 10 x y z=true:=by simpa[aU] using h
variable {a1 a2 a3 b1 b2 b3:Int}
theorem zp(ha:aU a1 a2 a3=true)(hb:aU b1 b2 b3=true):eb a1 a2 a3 b1 b2 b3=eb b1 b2 b3 a1 a2 a3:=by
 obtain⟨ra,wa⟩:=bI ha;obtain⟨rb,wb⟩:=bI hb;obtain⟨x1,x2,x3⟩:=aW.1 wa;obtain⟨y1,y2,y3⟩:=aW.1 wb;have e1:=eO x2 x3 y2 y3 (by omega);have e2:=eO x3 x1 y3 y1 (by omega);have e3:=eO x1 x2 y1 y2 (by omega);have f1:=eO y2 y3 x2 x3 (by omega);have f2:=eO y3 y1 x3 x1 (by omega);have f3:=eO y1 y2 x1 x2 (by omega);unfold eb;rw[ra,rb,e1.1,e2.1,e3.1,f1.1,f2.1,f3.1,te];congr 2
 unfold ij;rw[Int.mul_comm b2,Int.mul_comm b3 a2,Int.mul_comm b3 a1,Int.mul_comm b1 a3,Int.mul_comm b1 a2,Int.mul_comm b2 a1];congr 1
 apply propext;constructor<;>rintro ⟨h1,h2,h3⟩<;>exact⟨by omega,by omega,by omega⟩
theorem Fb(ha:aU a1 a2 a3=true)(hb:aU b1 b2 b3=true):
  (eqI (crW a2 a3 b2 b3) (crW a3 a1 b3 b1) (crW a1 a2 b1 b2) 0 0 0&&decide (0<bG a1 a2 a3 b1 b2 b3))=eb a1 a2 a3 b1 b2 b3:=by
 unfold eb;rw[(bI ha).1,(bI hb).1];rfl
end
section
open Go.Value renaming int → J
open Go.IntKind renaming i64 → Z
open Go.RowKit
theorem nC{m x:Int}(h:¬(-m≤x∧x≤m)):inB m x=false:=by simpa[inB] using h
theorem mI(m x y z:Int)(w:World)(hm0:0≤m)(hm:m≤1000000):
  Calls Tryz.prog 178 #[.agg #[J Z x,J Z y,J Z z],J Z m] w fun e w'=>e=.returned (.bool (aR m x y z))∧Below w.heap.size w w':=by
 have i0:∀w:World,(Instr.index 213 (.agg #[J Z x,J Z y,J Z z]) (J Z 0)).run Tryz.prog w=.ok (J Z x) w:=fun _=>by kernel_rfl
 have i1:∀w:World,(Instr.index 213 (.agg #[J Z x,J Z y,J Z z]) (J Z 1)).run Tryz.prog w=.ok (J Z y) w:=fun _=>by kernel_rfl
 have i2:∀w:World,(Instr.index 213 (.agg #[J Z x,J Z y,J Z z]) (J Z 2)).run Tryz.prog w=.ok (J Z z) w:=fun _=>by kernel_rfl
 have hwr:wrap64 (-m) = -m:=au (by omega) (by omega);go_enter Tryz.func178,Tryz.ntmps178;go_wp2_with fail;refine(tO x y z _).mono ?_;rintro e w1 ⟨rfl,hB1⟩;have hB:Below w.heap.size w w1:=ak (an _ _) hB1;clear hB1;go_wp2_with fail;go_loop [9] (fun i=>∃k:Nat,k≤3∧i=J Z k∧Hid (0<k→inB m x=true)∧Hid (1<k→inB m y=true)∧Hid (2<k→inB m z=true)) (fun i=>3-(intOf i).toNat)
 case atStart=>exact⟨0,Nat.zero_le _,rfl,yz (by omega),yz (by omega),yz (by omega)⟩
 case round=>
  obtain⟨k,hk,rfl,hx,hy,hz⟩:=hrel;have hk4:k=0∨k=1∨k=2∨k=3:=by omega
  rcases hk4 with rfl | rfl | rfl | rfl
  ·by_cases q1:-m≤x
   ·by_cases q2:x≤m
    ·have HI:=yz (il.2 ⟨q1,q2⟩);go_wp2;go_round
     case rel=>exact⟨1,by omega,rfl,yz (fun _=>yy HI),yz (by omega),yz (by omega)⟩
     case measure=>simp[intOf]
    ·have HO:=yz (nC (m:=m) (x:=x) (fun h=>q2 h.2));go_wp2;go_ret;exact⟨by simp[aR,yy HO],hB⟩
   ·have HO:=yz (nC (m:=m) (x:=x) (fun h=>q1 h.1));go_wp2;go_ret;exact⟨by simp[aR,yy HO],hB⟩
  ·by_cases q1:-m≤y
   ·by_cases q2:y≤m
    ·have HI:=yz (il.2 ⟨q1,q2⟩);go_wp2;go_round
     case rel=>exact⟨2,by omega,rfl,yz (fun _=>yy hx (by omega)),yz (fun _=>yy HI),yz (by omega)⟩
     case measure=>simp[intOf]
    ·have HO:=yz (nC (m:=m) (x:=y) (fun h=>q2 h.2));go_wp2;go_ret;exact⟨by simp[aR,yy HO],hB⟩
   ·have HO:=yz (nC (m:=m) (x:=y) (fun h=>q1 h.1));go_wp2;go_ret;exact⟨by simp[aR,yy HO],hB⟩
  ·by_cases q1:-m≤z
   ·by_cases q2:z≤m
    ·have HI:=yz (il.2 ⟨q1,q2⟩);go_wp2;go_round
     case rel=>exact⟨3,by omega,rfl,yz (fun _=>yy hx (by omega)),yz (fun _=>yy hy (by omega)),yz (fun _=>yy HI)⟩
     case measure=>simp[intOf]
    ·have HO:=yz (nC (m:=m) (x:=z) (fun h=>q2 h.2));go_wp2;go_ret;exact⟨by simp[aR,yy HO],hB⟩
   ·have HO:=yz (nC (m:=m) (x:=z) (fun h=>q1 h.1));go_wp2;go_ret;exact⟨by simp[aR,yy HO],hB⟩
  ·go_wp2;go_ret;exact⟨by simp[aR,yy hx (by omega),yy hy (by omega),yy hz (by omega)],hB⟩
def eqB(a1 a2 a3 b1 b2 b3:Int):Bool:=decide (a1=b1∧a2=b2∧a3=b3)
theorem th(a1 a2 a3 b1 b2 b3:Int)(w:World):(Op.equalIn 10000 72 (.agg #[J Z a1,J Z a2,J Z a3]) (.agg #[J Z b1,J Z b2,J Z b3])).run Tryz.prog w=.ok (eqB a1 a2 a3 b1 b2 b3) w:=by
 have h:=run_equalIn_struct (P:=Tryz.prog) w 9999 72 #[J Z a1,J Z a2,J Z a3] #[J Z b1,J Z b2,J Z b3] (by kernel_rfl) (by kernel_rfl);have hf:(Tryz.prog.fieldsOf 72).toList=(Tryz.prog.fieldsOf 72).toList:=rfl;refine h.trans ?_;by_cases h1:a1=b1
 ·by_cases h2:a2=b2
  ·by_cases h3:a3=b3
   ·simp[go_sem,eqB,h1,h2,h3]
   ·simp[go_sem,eqB,h1,h2,h3]
  ·simp[go_sem,eqB,h1,h2]
 ·simp[go_sem,eqB,h1]
theorem lx(a1 a2 a3 b1 b2 b3:Int)(w:World):(binOp .neq 72 (.agg #[J Z a1,J Z a2,J Z a3]) (.agg #[J Z b1,J Z b2,J Z b3])).run Tryz.prog w=.ok (.bool (!eqB a1 a2 a3 b1 b2 b3)) w:=by
 rw[run_neq_struct,th];rfl
theorem ut(a1 a2 a3 b1 b2 b3:Int)(w:World):(binOp .eql 72 (.agg #[J Z a1,J Z a2,J Z a3]) (.agg #[J Z b1,J Z b2,J Z b3])).run Tryz.prog w=.ok (.bool (eqB a1 a2 a3 b1 b2 b3)) w:=by
 rw[run_eql_struct,th];rfl
theorem de(x y z:Int)(w:World):
  Calls Tryz.prog 167 #[.agg #[J Z x,J Z y,J Z z]] w fun e w'=>e=.returned (.bool (aA x y z))∧Below w.heap.size w w':=by
 have hn:=fun w=>lx x y z 0 0 0 w;cases hz:eqB x y z 0 0 0
 ·rw[hz]at hn;have HR:Hid (aA x y z=aR 1000000 x y z):=yz (by unfold aA;rw[show ij x y z=false from hz];simp);go_enter Tryz.func167,Tryz.ntmps167;go_wp2_with fail;refine(mI 1000000 x y z _ (by omega) (by omega)).mono ?_;rintro e w1 ⟨rfl,hB1⟩;have hB:Below w.heap.size w w1:=ak (an _ _) hB1;clear hB1;go_wp2_with fail;go_ret;exact⟨by rw[yy HR];rfl,hB⟩
 ·rw[hz]at hn;have HR:Hid (aA x y z=false):=yz (by unfold aA;rw[show ij x y z=true from hz];simp);go_enter Tryz.func167,Tryz.ntmps167;go_wp2_with fail;go_ret;exact⟨by rw[yy HR];rfl,an _ _⟩
theorem isB(m x:Int):(decide (-m≤x)&&decide (x≤m))=inB m x:=by unfold inB;rw[Bool.decide_and]
theorem gP(m x y z:Int)(w:World)(hm0:0≤m)(hm:m≤1000000):
  Calls Tryz.prog 47 #[.agg #[J Z x,J Z y,J Z z],J Z m] w fun e w'=>e=.returned (.bool (aR m x y z))∧Below w.heap.size w w':=by
 have hwr:wrap64 (-m) = -m:=au (by omega) (by omega);go_enter Tryz.func47,Tryz.ntmps47;go_wp2_with fail;refine(eh x (-m) m _).mono ?_;rintro e w1 ⟨rfl,rfl⟩;rw[isB];cases hx:inB m x
 ·go_wp2_with fail;go_ret;exact⟨by simp[aR,hx],an _ _⟩
 ·go_wp2_with fail;refine(eh y (-m) m _).mono ?_;rintro e w1 ⟨rfl,rfl⟩;rw[isB];cases hy:inB m y
  ·go_wp2_with fail;go_ret;exact⟨by simp[aR,hy],an _ _⟩
  ·go_wp2_with fail;refine(eh z (-m) m _).mono ?_;rintro e w1 ⟨rfl,rfl⟩;rw[isB];go_wp2_with fail;go_ret;exact⟨by simp[aR,hx,hy],an _ _⟩
theorem jm(x y z:Int)(w:World):
  Calls Tryz.prog 46 #[.agg #[J Z x,J Z y,J Z z]] w fun e w'=>e=.returned (.bool (aA x y z))∧Below w.heap.size w w':=by
 have hn:=fun w=>lx x y z 0 0 0 w;go_enter Tryz.func46,Tryz.ntmps46;go_wp2_with fail;refine(gP 1000000 x y z _ (by omega) (by omega)).mono ?_;rintro e w1 ⟨rfl,hB1⟩;have hB:Below w.heap.size w w1:=ak (an _ _) hB1;have hc:∀i:Nat,w1.cell? ⟨w.heap.size,i,none⟩=_:=fun i=>hB1.cell (p:=⟨w.heap.size,i,none⟩) (by simp);have c0:=hc 0;have c1:=hc 1;have c2:=hc 2;simp at c0 c1 c2;clear hB1 hc;cases hx:aR 1000000 x y z
 ·go_wp2_with fail;go_ret;exact⟨by simp[aA,hx],hB⟩
 ·go_wp2_with fail;go_ret;exact⟨by simp[aA,hx];rfl,hB⟩
def aK(w:World)(b:Nat)(x y z:Int):Prop:=w.cell? ⟨b,0,none⟩=some (J Z x)∧w.cell? ⟨b,1,none⟩=some (J Z y)∧w.cell? ⟨b,2,none⟩=some (J Z z)
def eA(w:World)(b:Nat):Prop:=w.frozen? ⟨b,0,none⟩=false∧w.frozen? ⟨b,1,none⟩=false∧w.frozen? ⟨b,2,none⟩=false
variable {x y z:Int} {w w':World}
theorem aK.kept{b:Nat}(h:aK w b x y z)(hb:b<w.heap.size)(hB:Below w.heap.size w w'):aK w' b x y z:=by
 obtain⟨h0,h1,h2⟩:=h;exact⟨by rw[hB.cell (p:=⟨b,0,none⟩) hb];exact h0,by rw[hB.cell (p:=⟨b,1,none⟩) hb];exact h1,by rw[hB.cell (p:=⟨b,2,none⟩) hb];exact h2⟩
theorem eA.kept{b:Nat}(h:eA w b)(hb:b<w.heap.size)(hB:Below w.heap.size w w'):eA w' b:=by
 obtain⟨h0,h1,h2⟩:=h;exact⟨by rw[hB.frozen (p:=⟨b,0,none⟩) hb];exact h0,by rw[hB.frozen (p:=⟨b,1,none⟩) hb];exact h1,by rw[hB.frozen (p:=⟨b,2,none⟩) hb];exact h2⟩
theorem aM(w:World)(x y z:Int)(t:TypeId):aK (w.alloc (.cells #[J Z x,J Z y,J Z z] t)) w.heap.size x y z:=by
 refine⟨?_,?_,?_⟩<;>simp
theorem fe(w:World)(x y z:Int)(t:TypeId):eA (w.alloc (.cells #[J Z x,J Z y,J Z z] t)) w.heap.size:=by
 refine⟨?_,?_,?_⟩<;>simp
theorem aK.alloc{b:Nat}(h:aK w b x y z)(hb:b<w.heap.size)(o:Obj):aK (w.alloc o) b x y z:=h.kept hb (an _ _)
theorem bP{w1:World}{b:Nat}(h:Below w.heap.size w w1)(hb:w.heap.size≤b)(x y z:Value):Below w.heap.size w (((w1.setCell ⟨b,0,none⟩ x).setCell ⟨b,1,none⟩ y).setCell ⟨b,2,none⟩ z):=((h.setCell hb _).setCell hb _).setCell hb _
theorem Cp(w:World)(a b c d:Obj):Below w.heap.size w ((((w.alloc a).alloc b).alloc c).alloc d):=(eC w a b c).alloc (by simp;omega) _
theorem us(a1 a2 a3 b1 b2 b3:Int)(w:World):
  Calls Tryz.prog 193 #[.agg #[J Z a1,J Z a2,J Z a3],.agg #[J Z b1,J Z b2,J Z b3]] w fun e w'=>e=.returned (J Z (ur a1 a2 a3 b1 b2 b3))∧Below w.heap.size w w':=by
 go_enter Tryz.func193,Tryz.ntmps193;go_wp2_with fail;refine(de a1 a2 a3 _).mono ?_;rintro e w1 ⟨rfl,hB1⟩;have hB:Below w.heap.size w w1:=ak (aX _ _ _) hB1;have hs:w.heap.size+2≤w1.heap.size:=by have:=hB1.size;simpa[Nat.add_assoc] using this
 have va:aK w1 w.heap.size a1 a2 a3:=((by simpa using aM w a1 a2 a3 _:aK _ w.heap.size a1 a2 a3).alloc (by simp) _).kept (by simp;omega) hB1;have vb:aK w1 (w.heap.size+1) b1 b2 b3:=(by simpa using aM (w.alloc _) b1 b2 b3 _:aK _ (w.heap.size+1) b1 b2 b3).kept (by simp) hB1;clear hB1;have hva:=va;obtain⟨ca0,ca1,ca2⟩:=va;have hvb:=vb;obtain⟨cb0,cb1,cb2⟩:=vb;cases ha:aA a1 a2 a3
 ·go_wp2_with fail;go_ret;exact⟨by simp[ur,ha],hB⟩
 ·go_wp2_with fail;refine(de b1 b2 b3 _).mono ?_;rintro e w2 ⟨rfl,hB2⟩;have va:=hva.kept (by omega) hB2;have vb:=hvb.kept (by omega) hB2;replace hs:w.heap.size+2≤w2.heap.size:=by have:=hB2.size;omega
  replace hB:Below w.heap.size w w2:=ak hB hB2;clear hva ca0 ca1 ca2 hvb cb0 cb1 cb2;clear hB2;have hva:=va;obtain⟨ca0,ca1,ca2⟩:=va;have hvb:=vb;obtain⟨cb0,cb1,cb2⟩:=vb;cases hb:aA b1 b2 b3
  ·go_wp2_with fail;go_ret;exact⟨by simp[ur,hb],hB⟩
  ·go_wp2_with fail;refine(oT a1 a2 a3 b1 b2 b3 _).mono ?_;rintro e w3 ⟨rfl,hB3⟩;go_wp2_with fail;go_ret;exact⟨by simp[ur,ha,hb],ak hB hB3⟩
theorem sY(a1 a2 a3 b1 b2 b3:Int)(w:World):
  Calls Tryz.prog 192 #[.agg #[J Z a1,J Z a2,J Z a3],.agg #[J Z b1,J Z b2,J Z b3]] w fun e w'=>e=.returned (.agg #[J Z (crI (aA a1 a2 a3&&aA b1 b2 b3) a2 a3 b2 b3),J Z (crI (aA a1 a2 a3&&aA b1 b2 b3) a3 a1 b3 b1),J Z (crI (aA a1 a2 a3&&aA b1 b2 b3) a1 a2 b1 b2)])∧Below w.heap.size w w':=by
 go_enter Tryz.func192,Tryz.ntmps192;go_wp2_with fail;refine(de a1 a2 a3 _).mono ?_;rintro e w1 ⟨rfl,hB1⟩;have hB:Below w.heap.size w w1:=ak (eC _ _ _ _) hB1;have hs:w.heap.size+3≤w1.heap.size:=by have:=hB1.size;simpa[Nat.add_assoc] using this
 have va:aK w1 w.heap.size a1 a2 a3:=(((by simpa using aM w a1 a2 a3 _:aK _ w.heap.size a1 a2 a3).alloc (by simp) _).alloc (by simp;omega) _).kept (by simp;omega) hB1;have vb:aK w1 (w.heap.size+1) b1 b2 b3:=((by simpa using aM (w.alloc _) b1 b2 b3 _:aK _ (w.heap.size+1) b1 b2 b3).alloc (by simp) _).kept (by simp) hB1;have vr:aK w1 (w.heap.size+1+1) 0 0 0:=(by simpa using aM ((w.alloc _).alloc _) 0 0 0 _:aK _ (w.heap.size+1+1) 0 0 0).kept (by simp) hB1;have fr:eA w1 (w.heap.size+1+1):=(by simpa using fe ((w.alloc _).alloc _) 0 0 0 _:eA _ (w.heap.size+1+1)).kept (by simp) hB1;clear hB1;have hva:=va;obtain⟨ca0,ca1,ca2⟩:=va;have hvb:=vb;obtain⟨cb0,cb1,cb2⟩:=vb;have hvr:=vr;have hfr:=fr;obtain⟨cr0,cr1,cr2⟩:=vr;obtain⟨fr0,fr1,fr2⟩:=fr;cases ha:aA a1 a2 a3
 ·go_wp2_with fail;exact bodyPost_ret (v:=.agg #[J Z 0,J Z 0,J Z 0]) (by simp[results,Tryz.results192,go_sem,cr0,cr1,cr2]) rfl ⟨by simp[crI,ha],bP hB (by omega) _ _ _⟩
 ·go_wp2_with fail;refine(de b1 b2 b3 _).mono ?_;rintro e w2 ⟨rfl,hB2⟩;have va:=hva.kept (by omega) hB2;have vb:=hvb.kept (by omega) hB2;have vr:=hvr.kept (by omega) hB2;have fr:=hfr.kept (by omega) hB2;replace hs:w.heap.size+3≤w2.heap.size:=by have:=hB2.size;omega
  replace hB:Below w.heap.size w w2:=ak hB hB2;clear hva ca0 ca1 ca2 hvb cb0 cb1 cb2 hvr hfr cr0 cr1 cr2 fr0 fr1 fr2;clear hB2;have hva:=va;obtain⟨ca0,ca1,ca2⟩:=va;have hvb:=vb;obtain⟨cb0,cb1,cb2⟩:=vb;have hvr:=vr;have hfr:=fr;obtain⟨cr0,cr1,cr2⟩:=vr;obtain⟨fr0,fr1,fr2⟩:=fr;cases hb:aA b1 b2 b3
  ·go_wp2_with fail;exact bodyPost_ret (v:=.agg #[J Z 0,J Z 0,J Z 0]) (by simp[results,Tryz.results192,go_sem,cr0,cr1,cr2]) rfl ⟨by simp[crI,hb],bP hB (by omega) _ _ _⟩
  ·go_wp2_with fail;exact bodyPost_ret (v:=.agg #[J Z (crW a2 a3 b2 b3),J Z (crW a3 a1 b3 b1),J Z (crW a1 a2 b1 b2)]) (by simp[results,Tryz.results192,go_sem,cr0,cr1,cr2,crW]) rfl ⟨by simp[crI,ha,hb],bP hB (by omega) _ _ _⟩
theorem ns(a1 a2 a3 b1 b2 b3:Int)(w:World):
  Calls Tryz.prog 72 #[.agg #[J Z a1,J Z a2,J Z a3],.agg #[J Z b1,J Z b2,J Z b3]] w fun e w'=>e=.returned (.agg #[J Z (crW a2 a3 b2 b3),J Z (crW a3 a1 b3 b1),J Z (crW a1 a2 b1 b2)])∧Below w.heap.size w w':=by
 go_enter Tryz.func72,Tryz.ntmps72;go_wp2;exact bodyPost_ret (v:=.agg #[J Z (crW a2 a3 b2 b3),J Z (crW a3 a1 b3 b1),J Z (crW a1 a2 b1 b2)]) (by simp[results,Tryz.results72,go_sem,crW]) rfl ⟨rfl,eC _ _ _ _⟩
theorem xO{a b:Int}(h:b≠0)(hb:-1000000≤b∧b≤1000000):wrap64 (a.tmod b)=a.tmod b∧-1000000≤a.tmod b∧a.tmod b≤1000000:=by
 have:=vK a b h;have h2:-1000000≤a.tmod b∧a.tmod b≤1000000:=by omega
 exact⟨au (by omega) (by omega),h2⟩
theorem dC(w:World)(n:Nat):Below w.heap.size w (w.drewN n):=⟨rfl,rfl,rfl,Nat.le_refl _,fun _ _=>rfl⟩
theorem fV(a b:Int)(w:World)(ha:-1000000≤a∧a≤1000000)(hb:-1000000≤b∧b≤1000000):
  Calls Tryz.prog 159 #[J Z a,J Z b] w fun e w'=>e=.returned (J Z ((Int.gcd a b:Nat):Int))∧∃n,w'=w.drewN n:=by
 go_enter Tryz.func159,Tryz.ntmps159;go_wp2;go_loopw [0,1] (fun u v wr=>∃p q:Int,u=J Z p∧v=J Z q∧Hid (-1000000≤p∧p≤1000000)∧Hid (-1000000≤q∧q≤1000000)∧Hid (Int.gcd p q=Int.gcd a b)∧∃n,wr=w.drewN n) (fun _ v _=>(intOf v).natAbs)
 case atStart=>exact⟨a,b,rfl,rfl,yz ha,yz hb,yz rfl,0,rfl⟩
 case round=>
  obtain⟨p,q,rfl,rfl,hp,hq,hg,nd,rfl⟩:=hrel;by_cases h0:q=0
  ·subst h0;have HG:=yz (wI p);by_cases hn:p<0
   ·have HW:Hid (wrap64 (-p) = -p):=yz (by have:=yy hp;exact au (by omega) (by omega));have HR:=yz (show ((Int.gcd a b:Nat):Int) = -p by rw[←yy hg,yy HG,if_pos hn]);go_wp2;go_ret;exact⟨by rw[yy HR];exact congrArg (fun x=>Ending.returned (Value.int .i64 x)) (yy HW),nd,rfl⟩
   ·have HR:=yz (show ((Int.gcd a b:Nat):Int)=p by rw[←yy hg,yy HG,if_neg hn]);go_wp2;go_ret;exact⟨by rw[yy HR];rfl,nd,rfl⟩
  ·have hz:(q==0)=false:=by simp[h0]
   have hr:=xO (a:=p) h0 (yy hq);have HL:=yz (vK p q h0);have HS:=yz (wH p q);obtain⟨r,hre⟩:∃r,p.tmod q=r:=⟨_,rfl⟩
   have hrw:=hr.1;have HRB:=yz hr.2;rw[hre]at hrw HRB HL HS;clear hr;go_wp2;go_region
   go_wp2;go_roundw
   case rel=>exact⟨q,r,rfl,rfl,hq,HRB,yz ((yy HS).trans (yy hg)),nd+1,rfl⟩
   case measure=>simp[intOf];exact yy HL
theorem iD(a b:Int)(w:World)(ha:-1000000≤a∧a≤1000000)(hb:-1000000≤b∧b≤1000000):
  Calls Tryz.prog 71 #[J Z a,J Z b] w fun e w'=>e=.returned (J Z ((Int.gcd a b:Nat):Int))∧∃n,w'=w.drewN n:=by
 go_enter Tryz.func71,Tryz.ntmps71;go_wp2;go_loopw [0,1] (fun u v wr=>∃p q:Int,u=J Z p∧v=J Z q∧Hid (-1000000≤p∧p≤1000000)∧Hid (-1000000≤q∧q≤1000000)∧Hid (Int.gcd p q=Int.gcd a b)∧∃n,wr=w.drewN n) (fun _ v _=>(intOf v).natAbs)
 case atStart=>exact⟨a,b,rfl,rfl,yz ha,yz hb,yz rfl,0,rfl⟩
 case round=>
  obtain⟨p,q,rfl,rfl,hp,hq,hg,nd,rfl⟩:=hrel;by_cases h0:q=0
  ·subst h0;have HG:=yz (wI p);by_cases hn:p<0
   ·have HW:Hid (wrap64 (-p) = -p):=yz (by have:=yy hp;exact au (by omega) (by omega));have HR:=yz (show ((Int.gcd a b:Nat):Int) = -p by rw[←yy hg,yy HG,if_pos hn]);go_wp2;go_ret;exact⟨by rw[yy HR];exact congrArg (fun x=>Ending.returned (Value.int .i64 x)) (yy HW),nd,rfl⟩
   ·have HR:=yz (show ((Int.gcd a b:Nat):Int)=p by rw[←yy hg,yy HG,if_neg hn]);go_wp2;go_ret;exact⟨by rw[yy HR];rfl,nd,rfl⟩
  ·have hz:(q==0)=false:=by simp[h0]
   have hr:=xO (a:=p) h0 (yy hq);have HL:=yz (vK p q h0);have HS:=yz (wH p q);obtain⟨r,hre⟩:∃r,p.tmod q=r:=⟨_,rfl⟩
   have hrw:=hr.1;have HRB:=yz hr.2;rw[hre]at hrw HRB HL HS;clear hr;go_wp2;go_roundw
   case rel=>exact⟨q,r,rfl,rfl,hq,HRB,yz ((yy HS).trans (yy hg)),nd,rfl⟩
   case measure=>simp[intOf];exact yy HL
theorem jX(x y z:Int)(w:World)(hr:aA x y z=true):
  Calls Tryz.prog 48 #[.agg #[J Z x,J Z y,J Z z]] w fun e w'=>e=.returned (.agg #[J Z (wrap64 (x.tdiv (gI x y z))),J Z (wrap64 (y.tdiv (gI x y z))),J Z (wrap64 (z.tdiv (gI x y z)))])∧Below w.heap.size w w':=by
 obtain⟨⟨hx,hy,hz⟩,_⟩:=bz.1 hr;have hg1:=mg hx hy;have hpos:=CP hr;go_enter Tryz.func48,Tryz.ntmps48;go_wp2_with fail;go_quiet (first | (go_at_call_of 71 (Value.int IntKind.i64 x);refine Calls.quiet_of (iD x y _ hx hy)) | (go_at_call 71;refine Calls.quiet_of (iD _ z _ ?_ hz);omega))
 have hz0:(gI x y z==0)=false:=by simp;omega
 have hgi:((Int.gcd ((Int.gcd x y:Nat):Int) z:Nat):Int)=gI x y z:=rfl;rw[hgi];clear hgi;generalize hge:gI x y z=g at hpos hz0 ⊢;have HG:=yz hge;clear hge;have va:aK (((w.alloc (.cells #[J Z x,J Z y,J Z z] 72)).alloc (.cells #[J Z 0,J Z 0,J Z 0] 72)).drewN nq) w.heap.size x y z:=((aM w x y z _).alloc (by simp) _)
 have vr:aK (((w.alloc (.cells #[J Z x,J Z y,J Z z] 72)).alloc (.cells #[J Z 0,J Z 0,J Z 0] 72)).drewN nq) (w.heap.size+1) 0 0 0:=(by simpa using aM (w.alloc (.cells #[J Z x,J Z y,J Z z] 72)) 0 0 0 72:aK ((w.alloc (.cells #[J Z x,J Z y,J Z z] 72)).alloc (.cells #[J Z 0,J Z 0,J Z 0] 72)) (w.heap.size+1) 0 0 0)
 have fr:eA (((w.alloc (.cells #[J Z x,J Z y,J Z z] 72)).alloc (.cells #[J Z 0,J Z 0,J Z 0] 72)).drewN nq) (w.heap.size+1):=(by simpa using fe (w.alloc (.cells #[J Z x,J Z y,J Z z] 72)) 0 0 0 72:eA ((w.alloc (.cells #[J Z x,J Z y,J Z z] 72)).alloc (.cells #[J Z 0,J Z 0,J Z 0] 72)) (w.heap.size+1))
 have hB:Below w.heap.size w (((w.alloc (.cells #[J Z x,J Z y,J Z z] 72)).alloc (.cells #[J Z 0,J Z 0,J Z 0] 72)).drewN nq):=ak (aX _ _ _) (dC _ _);generalize ((w.alloc (.cells #[J Z x,J Z y,J Z z] 72)).alloc (.cells #[J Z 0,J Z 0,J Z 0] 72)).drewN nq=w1 at va vr fr hB ⊢;obtain⟨ca0,ca1,ca2⟩:=va;obtain⟨cr0,cr1,cr2⟩:=vr;obtain⟨fr0,fr1,fr2⟩:=fr;clear hg1 hx hy hz hr;go_wp2_with fail;go_region
 go_wp2;exact bodyPost_ret (v:=.agg #[J Z (wrap64 (x.tdiv g)),J Z (wrap64 (y.tdiv g)),J Z (wrap64 (z.tdiv g))]) (by simp[results,Tryz.results48,go_sem,cr0,cr1,cr2]) rfl ⟨by rw[yy HG],(bP hB (by omega) _ _ _).drew⟩
def gS(x y z:Int):Nat→Int
 | 0=>0
 | 1=>((Int.gcd 0 x:Nat):Int)
 | 2=>((Int.gcd ((Int.gcd 0 x:Nat):Int) y:Nat):Int)
 | _=>((Int.gcd ((Int.gcd ((Int.gcd 0 x:Nat):Int) y:Nat):Int) z:Nat):Int)
theorem CQ{x y z:Int}(k:Nat)(h:(-1000000≤x∧x≤1000000)∧(-1000000≤y∧y≤1000000)∧(-1000000≤z∧z≤1000000)):-1000000≤gS x y z k∧gS x y z k≤1000000:=by
 have h1:=mg (a:=0) (m:=1000000) (by omega) h.1;have h2:=mg (m:=1000000) (a:=((Int.gcd 0 x:Nat):Int)) (by omega) h.2.1;have h3:=mg (m:=1000000) (a:=((Int.gcd ((Int.gcd 0 x:Nat):Int) y:Nat):Int)) (by omega) h.2.2
 match k with
 | 0=>exact⟨by show (-1000000:Int)≤0;omega,by show (0:Int)≤1000000;omega⟩
 | 1=>exact⟨by show (-1000000:Int)≤((Int.gcd 0 x:Nat):Int);omega,h1.2⟩
 | 2=>exact⟨by show (-1000000:Int)≤((Int.gcd ((Int.gcd 0 x:Nat):Int) y:Nat):Int);omega,h2.2⟩
 | k+3=>exact⟨by show (-1000000:Int)≤((Int.gcd ((Int.gcd ((Int.gcd 0 x:Nat):Int) y:Nat):Int) z:Nat):Int);omega,h3.2⟩
theorem oN(a1 a2 a3:Int)(w:World):
  Calls Tryz.prog 147 #[.agg #[J Z a1,J Z a2,J Z a3]] w fun e w'=>e=.returned (.agg #[J Z (prI (aA a1 a2 a3) (gI a1 a2 a3) a1),J Z (prI (aA a1 a2 a3) (gI a1 a2 a3) a2),J Z (prI (aA a1 a2 a3) (gI a1 a2 a3) a3)])∧Below w.heap.size w w':=by
 go_enter Tryz.func147,Tryz.ntmps147;go_wp2_with fail;refine(de a1 a2 a3 _).mono ?_;rintro e w1 ⟨rfl,hB1⟩;have hB:Below w.heap.size w w1:=ak (aX _ _ _) hB1;have hs:w.heap.size+2≤w1.heap.size:=by have:=hB1.size;simpa[Nat.add_assoc] using this
 have va:aK w1 w.heap.size a1 a2 a3:=((by simpa using aM w a1 a2 a3 _:aK _ w.heap.size a1 a2 a3).alloc (by simp) _).kept (by simp;omega) hB1;have vr:aK w1 (w.heap.size+1) 0 0 0:=(by simpa using aM (w.alloc _) 0 0 0 _:aK _ (w.heap.size+1) 0 0 0).kept (by simp) hB1;have fr:eA w1 (w.heap.size+1):=(by simpa using fe (w.alloc _) 0 0 0 _:eA _ (w.heap.size+1)).kept (by simp) hB1;clear hB1;have hva:=va;obtain⟨ca0,ca1,ca2⟩:=va;have hvr:=vr;have hfr:=fr;obtain⟨cr0,cr1,cr2⟩:=vr;obtain⟨fr0,fr1,fr2⟩:=fr;cases ha:aA a1 a2 a3
 ·go_wp2_with fail;exact bodyPost_ret (v:=.agg #[J Z 0,J Z 0,J Z 0]) (by simp[results,Tryz.results147,go_sem,cr0,cr1,cr2]) rfl ⟨by simp[prI,ha],bP hB (by omega) _ _ _⟩
 ·go_wp2_with fail;refine(tO a1 a2 a3 _).mono ?_;rintro e w2 ⟨rfl,hB2⟩;have va:=hva.kept (by omega) hB2;have vr:=hvr.kept (by omega) hB2;have fr:=hfr.kept (by omega) hB2;replace hs:w.heap.size+2≤w2.heap.size:=by have:=hB2.size;omega
  replace hB:Below w.heap.size w w2:=ak hB hB2;clear hB2 hva hvr hfr ca0 ca1 ca2 cr0 cr1 cr2 fr0 fr1 fr2;have i0:∀w:World,(Instr.index 213 (.agg #[J Z a1,J Z a2,J Z a3]) (J Z 0)).run Tryz.prog w=.ok (J Z a1) w:=fun _=>by kernel_rfl
  have i1:∀w:World,(Instr.index 213 (.agg #[J Z a1,J Z a2,J Z a3]) (J Z 1)).run Tryz.prog w=.ok (J Z a2) w:=fun _=>by kernel_rfl
  have i2:∀w:World,(Instr.index 213 (.agg #[J Z a1,J Z a2,J Z a3]) (J Z 2)).run Tryz.prog w=.ok (J Z a3) w:=fun _=>by kernel_rfl
  have HR:=yz (bz.1 ha).1;have HP:=yz (CP ha);go_wp2_with fail;go_loopw [3,12] (fun u i wr=>∃(k n:Nat),k≤3∧i=J Z k∧u=J Z (gS a1 a2 a3 k)∧wr=w2.drewN n) (fun _ i _=>3-(intOf i).toNat)
  case atStart=>exact⟨0,0,by omega,rfl,rfl,rfl⟩
  case round=>
   obtain⟨k,n,hk,rfl,rfl,rfl⟩:=hrel;have hk4:k=0∨k=1∨k=2∨k=3:=by omega
   rcases hk4 with rfl | rfl | rfl | rfl
   ·go_wp2_with fail;refine(fV _ a1 _ (CQ 0 (yy HR)) (yy HR).1).mono ?_;rintro e w3 ⟨rfl,m,rfl⟩;go_wp2_with fail;go_roundw
    case rel=>exact⟨1,n+m,by omega,rfl,rfl,by simp⟩
    case measure=>simp[intOf]
   ·go_wp2_with fail;refine(fV _ a2 _ (CQ 1 (yy HR)) (yy HR).2.1).mono ?_;rintro e w3 ⟨rfl,m,rfl⟩;go_wp2_with fail;go_roundw
    case rel=>exact⟨2,n+m,by omega,rfl,rfl,by simp⟩
    case measure=>simp[intOf]
   ·go_wp2_with fail;refine(fV _ a3 _ (CQ 2 (yy HR)) (yy HR).2.2).mono ?_;rintro e w3 ⟨rfl,m,rfl⟩;go_wp2_with fail;go_roundw
    case rel=>exact⟨3,n+m,by omega,rfl,rfl,by simp⟩
    case measure=>simp[intOf]
   ·have hgs:gS a1 a2 a3 3=gI a1 a2 a3:=AY a1 a2 a3;rw[hgs];clear hgs;have hpos:=yy HP;have hz0:(gI a1 a2 a3==0)=false:=by simp;omega
    generalize hge:gI a1 a2 a3=g at hpos hz0 ⊢;have HG:=yz hge;clear hge i0 i1 i2;have va':aK (w2.drewN n) w.heap.size a1 a2 a3:=va;have vr':aK (w2.drewN n) (w.heap.size+1) 0 0 0:=vr;have fr':eA (w2.drewN n) (w.heap.size+1):=fr;have hB':Below w.heap.size w (w2.drewN n):=ak hB (dC _ _);clear va vr fr hB hs;go_wp2_with fail;generalize w2.drewN n=w3 at va' vr' fr' hB' ⊢;obtain⟨ca0,ca1,ca2⟩:=va';obtain⟨cr0,cr1,cr2⟩:=vr';obtain⟨fr0,fr1,fr2⟩:=fr';go_region
    go_wp2;exact bodyPost_ret (v:=.agg #[J Z (wrap64 (a1.tdiv g)),J Z (wrap64 (a2.tdiv g)),J Z (wrap64 (a3.tdiv g))]) (by simp[results,Tryz.results147,go_sem,cr0,cr1,cr2]) rfl ⟨by rw[yy HG];simp[prI,ha],(bP hB' (by omega) _ _ _).drew⟩
end
section
open Go.RowKit Go.Sort
theorem zU(a1 a2 a3 b1 b2 b3 c1 c2 c3:Int)(w:World):
  Calls Tryz.prog 208 #[.agg #[.int .i64 a1,.int .i64 a2,.int .i64 a3],.agg #[.int .i64 b1,.int .i64 b2,.int .i64 b3],.agg #[.int .i64 c1,.int .i64 c2,.int .i64 c3]] w fun e w'=>e=.returned (.int .i64 (rY a1 a2 a3 b1 b2 b3 c1 c2 c3))∧Below w.heap.size w w':=by
 go_enter Tryz.func208,Tryz.ntmps208;go_wp2_with fail;refine(de a1 a2 a3 _).mono ?_;rintro e w1 ⟨rfl,hB1⟩;have hB:Below w.heap.size w w1:=ak (eC _ _ _ _) hB1;have hs:w.heap.size+3≤w1.heap.size:=by have:=hB1.size;simpa[Nat.add_assoc] using this
 have va:aK w1 w.heap.size a1 a2 a3:=(((by simpa using aM w a1 a2 a3 _:aK _ w.heap.size a1 a2 a3).alloc (by simp) _).alloc (by simp;omega) _).kept (by simp;omega) hB1;have vb:aK w1 (w.heap.size+1) b1 b2 b3:=((by simpa using aM (w.alloc _) b1 b2 b3 _:aK _ (w.heap.size+1) b1 b2 b3).alloc (by simp) _).kept (by simp) hB1;have vc:aK w1 (w.heap.size+1+1) c1 c2 c3:=(by simpa using aM ((w.alloc _).alloc _) c1 c2 c3 _:aK _ (w.heap.size+1+1) c1 c2 c3).kept (by simp) hB1;clear hB1;have hva:=va;obtain⟨ca0,ca1,ca2⟩:=va;have hvb:=vb;obtain⟨cb0,cb1,cb2⟩:=vb;have hvc:=vc;obtain⟨cc0,cc1,cc2⟩:=vc;cases ha:aA a1 a2 a3
 ·go_wp2_with fail;go_ret;exact⟨by simp[rY,ha],hB⟩
 ·go_wp2_with fail;refine(de b1 b2 b3 _).mono ?_;rintro e w2 ⟨rfl,hB2⟩;have va:=hva.kept (by omega) hB2;have vb:=hvb.kept (by omega) hB2;have vc:=hvc.kept (by omega) hB2;replace hs:w.heap.size+3≤w2.heap.size:=by have:=hB2.size;omega
  replace hB:Below w.heap.size w w2:=ak hB hB2;clear hva ca0 ca1 ca2 hvb cb0 cb1 cb2 hvc cc0 cc1 cc2;clear hB2;have hva:=va;obtain⟨ca0,ca1,ca2⟩:=va;have hvb:=vb;obtain⟨cb0,cb1,cb2⟩:=vb;have hvc:=vc;obtain⟨cc0,cc1,cc2⟩:=vc;cases hb:aA b1 b2 b3
  ·go_wp2_with fail;go_ret;exact⟨by simp[rY,hb],hB⟩
  ·go_wp2_with fail;refine(de c1 c2 c3 _).mono ?_;rintro e w3 ⟨rfl,hB3⟩;have va:=hva.kept (by omega) hB3;have vb:=hvb.kept (by omega) hB3;have vc:=hvc.kept (by omega) hB3;replace hs:w.heap.size+3≤w3.heap.size:=by have:=hB3.size;omega
   replace hB:Below w.heap.size w w3:=ak hB hB3;clear hva ca0 ca1 ca2 hvb cb0 cb1 cb2 hvc cc0 cc1 cc2;clear hB3;have hva:=va;obtain⟨ca0,ca1,ca2⟩:=va;have hvb:=vb;obtain⟨cb0,cb1,cb2⟩:=vb;have hvc:=vc;obtain⟨cc0,cc1,cc2⟩:=vc;cases hc:aA c1 c2 c3
   ·go_wp2_with fail;go_ret;exact⟨by simp[rY,hc],hB⟩
   ·go_wp2_with fail;clear hva hvb hvc;have HD:=yz (show rY a1 a2 a3 b1 b2 b3 c1 c2 c3=bG (crW a2 a3 b2 b3) (crW a3 a1 b3 b1) (crW a1 a2 b1 b2) c1 c2 c3 by simp[rY,ha,hb,hc]);have ka0:=cell_regrown ca0;have ka1:=cell_regrown ca1;have ka2:=cell_regrown ca2;have kb0:=cell_regrown cb0;have kb1:=cell_regrown cb1;have kb2:=cell_regrown cb2;have kc0:=cell_regrown cc0;have kc1:=cell_regrown cc1;have kc2:=cell_regrown cc2;refine dg ?_;repeat (quiet_step (first | exact Calls.regrown_of (sY a1 a2 a3 b1 b2 b3 _) | exact Calls.regrown_of (oT _ _ _ c1 c2 c3 _)))
    refine dv fun dq osq=>?_;clear ca0 ka0 ca1 ka1 ca2 ka2 cb0 kb0 cb1 kb1 cb2 kb2 cc0 kc0 cc1 kc1 cc2 kc2;go_wp2;go_ret;exact⟨by rw[yy HD];simp[crI],ak hB (below_regrown w3 dq osq)⟩
end
section
open Go.Value renaming int → J
open Go.IntKind renaming i64 → Z
open Go.RowKit Go.Sort
theorem DS(a1 a2 a3 b1 b2 b3:Int):eb a1 a2 a3 b1 b2 b3=(eqB (crI (aA a1 a2 a3&&aA b1 b2 b3) a2 a3 b2 b3) (crI (aA a1 a2 a3&&aA b1 b2 b3) a3 a1 b3 b1) (crI (aA a1 a2 a3&&aA b1 b2 b3) a1 a2 b1 b2) 0 0 0&&decide (0<ur a1 a2 a3 b1 b2 b3)):=by
 unfold eb crI ur;cases h:(aA a1 a2 a3&&aA b1 b2 b3)
 ·simp
 ·simp[eqB,ij]
theorem jf(a1 a2 a3 b1 b2 b3:Int)(w:World):
  Calls Tryz.prog 179 #[.agg #[J Z a1,J Z a2,J Z a3],.agg #[J Z b1,J Z b2,J Z b3]] w fun e w'=>e=.returned (.bool (eb a1 a2 a3 b1 b2 b3))∧Below w.heap.size w w':=by
 have HS:=yz (DS a1 a2 a3 b1 b2 b3);go_enter Tryz.func179,Tryz.ntmps179;go_wp2_with fail;refine(sY a1 a2 a3 b1 b2 b3 _).mono ?_;rintro e w1 ⟨rfl,hB1⟩;have hB:Below w.heap.size w w1:=ak (aX _ _ _) hB1;have va:aK w1 w.heap.size a1 a2 a3:=((aM w a1 a2 a3 _).alloc (by simp) _).kept (by simp;omega) hB1;have vb:aK w1 (w.heap.size+1) b1 b2 b3:=(by simpa using aM (w.alloc _) b1 b2 b3 _:aK _ (w.heap.size+1) b1 b2 b3).kept (by simp) hB1;clear hB1;obtain⟨ca0,ca1,ca2⟩:=va;obtain⟨cb0,cb1,cb2⟩:=vb;generalize crI (aA a1 a2 a3&&aA b1 b2 b3) a2 a3 b2 b3=x at HS ⊢;generalize crI (aA a1 a2 a3&&aA b1 b2 b3) a3 a1 b3 b1=y at HS ⊢;generalize crI (aA a1 a2 a3&&aA b1 b2 b3) a1 a2 b1 b2=z at HS ⊢;have he:=fun w=>ut x y z 0 0 0 w;cases hz:eqB x y z 0 0 0
 ·rw[hz]at he HS;go_wp2_with fail;go_ret;exact⟨by rw[yy HS];rfl,hB⟩
 ·rw[hz]at he HS;go_wp2_with fail;refine(us a1 a2 a3 b1 b2 b3 _).mono ?_;rintro e w2 ⟨rfl,hB2⟩;replace hB:=ak hB hB2;go_wp2_with fail;go_ret;exact⟨by rw[yy HS,Bool.true_and];rfl,hB⟩
theorem kO(a1 a2 a3 b1 b2 b3:Int)(w:World):
  Calls Tryz.prog 49 #[.agg #[J Z a1,J Z a2,J Z a3],.agg #[J Z b1,J Z b2,J Z b3]] w fun e w'=>e=.returned (.bool (eqB (crW a2 a3 b2 b3) (crW a3 a1 b3 b1) (crW a1 a2 b1 b2) 0 0 0&&decide (0<bG a1 a2 a3 b1 b2 b3)))∧Below w.heap.size w w':=by
 go_enter Tryz.func49,Tryz.ntmps49;go_wp2_with fail;refine(ns a1 a2 a3 b1 b2 b3 _).mono ?_;rintro e w1 ⟨rfl,hB1⟩;have hB:Below w.heap.size w w1:=ak (aX _ _ _) hB1;have va:aK w1 w.heap.size a1 a2 a3:=((aM w a1 a2 a3 _).alloc (by simp) _).kept (by simp;omega) hB1;have vb:aK w1 (w.heap.size+1) b1 b2 b3:=(by simpa using aM (w.alloc _) b1 b2 b3 _:aK _ (w.heap.size+1) b1 b2 b3).kept (by simp) hB1;clear hB1;obtain⟨ca0,ca1,ca2⟩:=va;obtain⟨cb0,cb1,cb2⟩:=vb;have he:=fun w=>ut (crW a2 a3 b2 b3) (crW a3 a1 b3 b1) (crW a1 a2 b1 b2) 0 0 0 w;cases hz:eqB (crW a2 a3 b2 b3) (crW a3 a1 b3 b1) (crW a1 a2 b1 b2) 0 0 0
 ·rw[hz]at he;go_wp2_with fail;go_ret;exact⟨by rw[hz];rfl,hB⟩
 ·rw[hz]at he;go_wp2_with fail;refine(fU a1 a2 a3 b1 b2 b3 _).mono ?_;rintro e w2 ⟨rfl,hB2⟩;replace hB:=ak hB hB2;go_wp2_with fail;go_ret;exact⟨by rw[hz,Bool.true_and];rfl,hB⟩
end
section
open Go.RowKit Go.Sort
def FN(wd ht:Int)(s:ByteArray):Bool:=decide (1≤wd)&&decide (wd≤16)&&decide (1≤ht)&&decide (ht≤12)&&decide ((s.size:Int)=wd*ht)
def Gu(ar:Int)(ed:Bool)(lo hi:Int):Bool:=decide (lo≤ar)&&decide (ar≤hi) && !ed
end
end Go.Proofs.YtdchjcadhlkpfaaGreatDoor
