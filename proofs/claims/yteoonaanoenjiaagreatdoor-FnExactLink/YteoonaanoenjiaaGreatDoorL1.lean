/- Several texts in one: Tz, Tq, VecMath, SkyMath, TurnMath, TurnMath2, ModM, IdM, Plain, VecA, FrA, CmM, FrB, Bytes, Fresh. -/
import Derived.Deep.RegionHeld
import Derived.WalkKit
import Derived.Lib.QuietBelow
import Derived.Laws.BitsAllLaws
import Derived.Test.YteoonaanoenjiaaGreatDoorChecked
import Derived.Below
import Derived.Laws.StructEq
import Derived.WalkLawsBesides
import Derived.Deep.QuietTactic
import Derived.BigQuiet
import Derived.Test.YteoonaanoenjiaaGreatDoorRows
import Derived.WalkSpells
import Derived.Lib.BufferWrite
import Derived.Lib.SlBytesRow
namespace Go.Proofs.YteoonaanoenjiaaGreatDoor
set_option linter.unusedVariables false
set_option linter.unusedSimpArgs false
set_option maxRecDepth 100000
set_option maxHeartbeats 8000000
section
variable {a:Act} {listed:Array Bool} {ops:Array Oper} {fuel:Nat} {P:Program} {w:World}
theorem ab{Q:Exit→Act→World→Prop}{md:Region.Mode}{S:World→Prop}(i:Nat){oi:Oper}{v:Value}(hi:ops[i]? = some oi)(h:wpAnyH P md ops Q S fuel (listed.setIfInBounds i true) (a.put oi.dst v) w)(hs:Region.noSelect ops=true:=by kernel_rfl)(hf:Region.free md ops listed i=true:=by kernel_rfl)(hr:(Region.ready md ops listed).contains i=true:=by kernel_rfl)(hQ:∀c a w,Q (.panic c) (a.put oi.dst v) w→Q (.panic c) a w:=by exact fun _ _ _ h=>h)(hw:Region.wanted oi (yielded ops a.tmps)=true:=by kernel_rfl)(hy:∀w,S w→(execOp a.eval oi).run P w=.ok (.value v) w:=by (intro W0 hSw;(try dsimp only at hSw);go_simp<;>with_reducible rfl))(hS:S w:=by assumption):wpAnyH P md ops Q S (fuel+1) listed a w:=wpAnyH_take hi hs hf hr hQ (Or.inl ⟨hw,hy⟩) hS h
theorem ae{Q:Exit→Act→World→Prop}{md:Region.Mode}{S:World→Prop}(i:Nat){o:Oper}(ho:ops[i]? = some o)(h:(∀K':Act→World→Prop,Shut (∀a w,S w→(S w→wpAnyH P md ops Q S fuel (listed.setIfInBounds i true) a w)→K' a w)→if Region.wanted o (yielded ops a.tmps)=true then Oper.wp P o a w K' Q else K' (a.put o.dst undef) w))(hr:Region.ready md ops listed=[i]:=by kernel_rfl):wpAnyH P md ops Q S (fuel+1) listed a w:=wpAnyH_ready hr (by simp) (AllReadyH.cons ho h AllReadyH.nil)
theorem af{Q:Exit→Act→World→Prop}{md:Region.Mode}{S:World→Prop}(i j:Nat){o u:Oper}(ho:ops[i]? = some o)(h:(∀K':Act→World→Prop,Shut (∀a w,S w→(S w→wpAnyH P md ops Q S fuel (listed.setIfInBounds i true) a w)→K' a w)→if Region.wanted o (yielded ops a.tmps)=true then Oper.wp P o a w K' Q else K' (a.put o.dst undef) w))(hu:ops[j]? = some u)(g:(∀K':Act→World→Prop,Shut (∀a w,S w→(S w→wpAnyH P md ops Q S fuel (listed.setIfInBounds j true) a w)→K' a w)→if Region.wanted u (yielded ops a.tmps)=true then Oper.wp P u a w K' Q else K' (a.put u.dst undef) w))(hr:Region.ready md ops listed=[i,j]:=by kernel_rfl):wpAnyH P md ops Q S (fuel+1) listed a w:=wpAnyH_ready hr (by simp) (AllReadyH.cons ho h (AllReadyH.cons hu g AllReadyH.nil))
theorem ag{α:Type}(i:Nat)(x:α)(l:List α):l.toArray.setIfInBounds i x=(l.set i x).toArray:=List.setIfInBounds_toArray ..
theorem ah{α:Type}(x y:α)(l:List α):(x :: l).set 0 y=y :: l:=rfl
theorem ai{α:Type}(x y:α)(l:List α)(n:Nat):(x :: l).set (n+1) y=x :: l.set n y:=rfl
end
section
open Go.RowKit Go.Sort
variable {a:Act} {P:Program} {w:World}
theorem bQ{id:Nat}{Q:Exit→Act→World→Prop}{l:List Oper}(h:wpQuiet P l.toArray (fun w'=>∃p:Regrown,w'=grow (redrawn w p.d) p.os) (fun a'=>∀w',(∃p:Regrown,w'=grow (redrawn w p.d) p.os)→Q .normal a' w') l a)(hm:P.follows .mixedOrders=true:=by kernel_rfl)(hB:Region.lexB .any l.toArray=true:=by kernel_rfl):(Code.region id l.toArray true).wp P Q a w:=wp_region_quiet_below hm hB h
theorem bW{ops:Array Oper}{Q:Act→World→Prop}(h:∀d o,Q a (grow (redrawn w d) o)):wpQuiet P ops (fun w'=>∃p:Regrown,w'=grow (redrawn w p.d) p.os) (fun a'=>∀w',(∃p:Regrown,w'=grow (redrawn w p.d) p.os)→Q a' w') [] a:=fun _ ⟨p,e⟩=>e ▸ h p.d p.os
theorem aC{f:FuncId}{args:Array Value}{d:Nat}{os:Array Obj}{v:Value}(h:Hid (∀w,Calls P f args w fun e w'=>e=.returned v∧Below w.heap.size w w')):Calls P f args (grow (redrawn w d) os) fun e w''=>e=.returned v∧∃p:Regrown,w''=grow (redrawn w p.d) p.os:=Calls.regrown_of (h _)
end
section
open Go.RowKit
def inB(m x:Int):Bool:=decide (-m≤x∧x≤m)
def aM(m x y z:Int):Bool:=inB m x&&inB m y&&inB m z
def iw(x y z:Int):Bool:=decide (x=0∧y=0∧z=0)
def ax(x y z:Int):Bool:=aM 1000000 x y z && !iw x y z
variable {a a1 a2 a3 b b1 b2 b3 m x y z:Int}
theorem iy:inB m x=true↔-m≤x∧x≤m:=by simp[inB]
theorem bj:aM m x y z=true↔(-m≤x∧x≤m)∧(-m≤y∧y≤m)∧(-m≤z∧z≤m):=by
 simp[aM,iy,and_assoc]
theorem bC:ax x y z=true↔((-1000000≤x∧x≤1000000)∧(-1000000≤y∧y≤1000000)∧(-1000000≤z∧z≤1000000))∧¬(x=0∧y=0∧z=0):=by
 unfold ax;rw[Bool.and_eq_true,bj];simp only[iw,Bool.not_eq_true',decide_eq_false_iff_not]
theorem aq{n:Int}(h0:-9223372036854775808≤n)(h1:n≤9223372036854775807):wrap64 n=n:=by
 exact Go.IntWalk.wrap64_in n ⟨h0,h1⟩
theorem bZ{A B:Int}(h1:-A≤a∧a≤A)(h3:-B≤b∧b≤B):-(A*B)≤a*b∧a*b≤A*B:=by
 have h:(a*b).natAbs≤A.natAbs*B.natAbs:=by
  rw[Int.natAbs_mul];exact Nat.mul_le_mul (by omega) (by omega)
 have:((A.natAbs*B.natAbs:Nat):Int)=A*B:=by
  rw[Int.natCast_mul,Int.natAbs_of_nonneg (by omega),Int.natAbs_of_nonneg (by omega)]
 omega
def bX(a1 a2 a3 b1 b2 b3:Int):Int:=wrap64 (wrap64 (wrap64 (a1*b1)+wrap64 (a2*b2))+wrap64 (a3*b3))
def dot(a1 a2 a3 b1 b2 b3:Int):Int:=a1*b1+a2*b2+a3*b3
def crW(a2 a3 b2 b3:Int):Int:=wrap64 (wrap64 (a2*b3)-wrap64 (a3*b2))
theorem uw(a1 a2 a3 b1 b2 b3:Int):bX a1 a2 a3 b1 b2 b3=bX b1 b2 b3 a1 a2 a3:=by
 unfold bX;rw[Int.mul_comm a1,Int.mul_comm a2,Int.mul_comm a3]
theorem dA{A B:Int}(ha:aM A a1 a2 a3=true)(hb:aM B b1 b2 b3=true):-(3*(A*B))≤dot a1 a2 a3 b1 b2 b3∧dot a1 a2 a3 b1 b2 b3≤3*(A*B):=by
 rw[bj]at ha hb;have h1:=bZ ha.1 hb.1;have h2:=bZ ha.2.1 hb.2.1;have h3:=bZ ha.2.2 hb.2.2;unfold dot;omega
theorem dY{A B:Int}(ha:aM A a1 a2 a3=true)(hb:aM B b1 b2 b3=true)(h:3*(A*B)≤9223372036854775807):bX a1 a2 a3 b1 b2 b3=dot a1 a2 a3 b1 b2 b3:=by
 rw[bj]at ha hb;have h1:=bZ ha.1 hb.1;have h2:=bZ ha.2.1 hb.2.1;have h3:=bZ ha.2.2 hb.2.2;unfold bX dot;rw[aq (n:=a1*b1) (by omega) (by omega),aq (n:=a2*b2) (by omega) (by omega),aq (n:=a3*b3) (by omega) (by omega),aq (n:=a1*b1+a2*b2) (by omega) (by omega),aq (by omega) (by omega)]
theorem eV{A B:Int}(h2:-A≤a2∧a2≤A)(h3:-A≤a3∧a3≤A)(k2:-B≤b2∧b2≤B)(k3:-B≤b3∧b3≤B)(h:2*(A*B)≤9223372036854775807):
  crW a2 a3 b2 b3=a2*b3-a3*b2∧-(2*(A*B))≤a2*b3-a3*b2∧a2*b3-a3*b2≤2*(A*B):=by
 have h1:=bZ h2 k3;have h2:=bZ h3 k2;unfold crW;rw[aq (n:=a2*b3) (by omega) (by omega),aq (n:=a3*b2) (by omega) (by omega),aq (by omega) (by omega)];omega
def vO(a1 a2 a3 b1 b2 b3:Int):Int:=if ax a1 a2 a3&&ax b1 b2 b3 then bX a1 a2 a3 b1 b2 b3 else 0
def crI(r:Bool)(a2 a3 b2 b3:Int):Int:=if r then crW a2 a3 b2 b3 else 0
def tD(a1 a2 a3 b1 b2 b3 c1 c2 c3:Int):Int:=
 if ax a1 a2 a3&&ax b1 b2 b3&&ax c1 c2 c3 then bX (crW a2 a3 b2 b3) (crW a3 a1 b3 b1) (crW a1 a2 b1 b2) c1 c2 c3 else 0
def gI(x y z:Int):Int:=((Int.gcd (Int.gcd x y:Int) z:Nat):Int)
def prI(r:Bool)(g x:Int):Int:=if r then wrap64 (x.tdiv g) else 0
def ez(a1 a2 a3 b1 b2 b3:Int):Bool:=
 ax a1 a2 a3&&ax b1 b2 b3&&iw (crW a2 a3 b2 b3) (crW a3 a1 b3 b1) (crW a1 a2 b1 b2)&&decide (0<bX a1 a2 a3 b1 b2 b3)
theorem ya(a b:Int):Int.gcd b (a.tmod b)=Int.gcd a b:=by
 show Nat.gcd b.natAbs (a.tmod b).natAbs=Nat.gcd a.natAbs b.natAbs;rw[Int.natAbs_tmod,Nat.gcd_comm b.natAbs,←Nat.gcd_rec,Nat.gcd_comm]
theorem yb(a:Int):((Int.gcd a 0:Nat):Int)=if a<0 then -a else a:=by
 rw[Int.gcd_zero_right];split<;>omega
theorem xo(a b:Int)(h:b≠0):(a.tmod b).natAbs<b.natAbs:=by
 rw[Int.natAbs_tmod];exact Nat.mod_lt _ (by omega)
theorem mM(ha:-m≤a∧a≤m)(hb:-m≤b∧b≤m):0≤((Int.gcd a b:Nat):Int)∧((Int.gcd a b:Nat):Int)≤m:=by
 refine⟨by omega,?_⟩;by_cases h:a=0
 ·subst h;rw[Int.gcd_zero_left];omega
 ·have:=Nat.le_of_dvd (by omega) (Nat.gcd_dvd_left a.natAbs b.natAbs);have e:Int.gcd a b=Nat.gcd a.natAbs b.natAbs:=rfl;omega
theorem CX(x y z:Int):((Int.gcd ((Int.gcd ((Int.gcd 0 x:Nat):Int) y:Nat):Int) z:Nat):Int)=gI x y z:=by
 unfold gI
 have:Int.gcd ((Int.gcd 0 x:Nat):Int) y=Int.gcd x y:=by
  rw[Int.gcd_zero_left];show Nat.gcd (x.natAbs:Int).natAbs y.natAbs=Nat.gcd x.natAbs y.natAbs;rw[Int.natAbs_natCast]
 rw[this]
theorem ES(h:ax x y z=true):0<gI x y z:=by
 rw[bC]at h;unfold gI
 have h2:Int.gcd ((Int.gcd x y:Nat):Int) z≠0:=by
  intro e;rw[Int.gcd_eq_zero_iff]at e;have e1:Int.gcd x y=0:=by omega
  rw[Int.gcd_eq_zero_iff]at e1;exact h.2 ⟨e1.1,e1.2,e.2⟩
 omega
theorem sW(h:¬(x=0∧y=0∧z=0)):0<dot x y z x y z:=by
 unfold dot;have hx:0≤x*x:=by rw[←Int.natAbs_mul_self' x];exact Int.natCast_nonneg _
 have hy:0≤y*y:=by rw[←Int.natAbs_mul_self' y];exact Int.natCast_nonneg _
 have hz:0≤z*z:=by rw[←Int.natAbs_mul_self' z];exact Int.natCast_nonneg _
 by_cases h1:x=0
 ·by_cases h2:y=0
  ·have h3:z≠0:=fun e=>h ⟨h1,h2,e⟩;have:z*z≠0:=fun e=>by rcases Int.mul_eq_zero.1 e with e | e<;>exact h3 e
   omega
  ·have:y*y≠0:=fun e=>by rcases Int.mul_eq_zero.1 e with e | e<;>exact h2 e
   omega
 ·have:x*x≠0:=fun e=>by rcases Int.mul_eq_zero.1 e with e | e<;>exact h1 e
  omega
def sgn(n:Int):Int:=if n<0 then -1 else if 0<n then 1 else 0
def ip(a b:Int):Int:=if a<b then -1 else if b<a then 1 else 0
def ssq(n:Int):Int:=if n<0 then -n*n else n*n
def qy(n:Int):Int:=if n<0 then wrap64 (wrap64 (-n)*n) else wrap64 (n*n)
def cy(x y z:Int):Bool:=ax x y z&&aM 1800 x y z
def aN(x y z:Int):Bool:=ax x y z&&aM 10 x y z
def oy(a1 a2 a3 b1 b2 b3 c1 c2 c3 d1 d2 d3:Int):Int:=
 if cy a1 a2 a3&&cy b1 b2 b3&&aN c1 c2 c3&&aN d1 d2 d3 then
  ip (ssq (dot a1 a2 a3 b1 b2 b3)*(dot c1 c2 c3 c1 c2 c3*dot d1 d2 d3 d1 d2 d3)) (ssq (dot c1 c2 c3 d1 d2 d3)*(dot a1 a2 a3 a1 a2 a3*dot b1 b2 b3 b1 b2 b3))
 else 0
theorem EI{c1 c2 c3 d1 d2 d3:Int}(ha:aM 1800 a1 a2 a3=true)(hb:aM 1800 b1 b2 b3=true)(hc:aM 10 c1 c2 c3=true)(hd:aM 10 d1 d2 d3=true):
  wrap64 (qy (bX a1 a2 a3 b1 b2 b3)*wrap64 (bX c1 c2 c3 c1 c2 c3*bX d1 d2 d3 d1 d2 d3))=ssq (dot a1 a2 a3 b1 b2 b3)*(dot c1 c2 c3 c1 c2 c3*dot d1 d2 d3 d1 d2 d3) ∧
  wrap64 (qy (bX c1 c2 c3 d1 d2 d3)*wrap64 (bX a1 a2 a3 a1 a2 a3*bX b1 b2 b3 b1 b2 b3))=ssq (dot c1 c2 c3 d1 d2 d3)*(dot a1 a2 a3 a1 a2 a3*dot b1 b2 b3 b1 b2 b3):=by
 rw[dY ha hb (by omega),dY hc hc (by omega),dY hd hd (by omega),dY hc hd (by omega),dY ha ha (by omega),dY hb hb (by omega)];have x1:=dA ha hb;have x2:=dA hc hc;have x3:=dA hd hd;have x4:=dA hc hd;have x5:=dA ha ha;have x6:=dA hb hb;generalize dot a1 a2 a3 b1 b2 b3=p1 at *;generalize dot c1 c2 c3 c1 c2 c3=p2 at *;generalize dot d1 d2 d3 d1 d2 d3=p3 at *;generalize dot c1 c2 c3 d1 d2 d3=p4 at *;generalize dot a1 a2 a3 a1 a2 a3=p5 at *;generalize dot b1 b2 b3 b1 b2 b3=p6 at *
 have key:∀(p q r P Q:Int),(-P≤p∧p≤P)→(-Q≤q∧q≤Q)→(-Q≤r∧r≤Q)→P*P≤9223372036854775807→P≤9223372036854775807→Q*Q≤9223372036854775807→(P*P)*(Q*Q)≤9223372036854775807 →
   wrap64 (qy p*wrap64 (q*r))=ssq p*(q*r):=by
  intro p q r P Q h1 h2 h3 k1 k2 k3 k4;have m1:=bZ h1 h1;have m2:=bZ h2 h3
  have e:qy p=ssq p:=by
   unfold qy ssq;split
   ·rw[aq (n:=-p) (by omega) (by omega)];have:-p*p = -(p*p):=by grind
    rw[aq (by omega) (by omega)]
   ·rw[aq (by omega) (by omega)]
  have b:-(P*P)≤ssq p∧ssq p≤P*P:=by
   unfold ssq;have:-p*p = -(p*p):=by grind
   split<;>omega
  have m3:=bZ b m2;rw[e,aq (n:=q*r) (by omega) (by omega),aq (by omega) (by omega)]
 exact⟨key p1 p2 p3 9720000 300 (by omega) (by omega) (by omega) (by omega) (by omega) (by omega) (by omega),key p4 p5 p6 300 9720000 (by omega) (by omega) (by omega) (by omega) (by omega) (by omega) (by omega)⟩
theorem wR(h:a<b):ip a b = -1:=by simp[ip,h]
theorem wQ(h:b<a):ip a b=1:=by unfold ip;rw[if_neg (by omega),if_pos h]
theorem lX(h:x<0):ssq x = -(x*x):=by unfold ssq;rw[if_pos h];grind
theorem lY(h:0≤x):ssq x=x*x:=by unfold ssq;rw[if_neg (by omega)]
theorem iB(h:x<0):sgn x = -1:=by simp[sgn,h]
theorem iC(h:0<x):sgn x=1:=by unfold sgn;rw[if_neg (by omega),if_pos h]
theorem nV:sgn 0=0:=by simp[sgn]
def rk(x y p q:Int):Int:=
 if sgn x≠sgn y then sgn (wrap64 (sgn x-sgn y)) else if p<q then wrap64 (-sgn x) else if q<p then sgn x else 0
theorem EJ{L M:Int}(hL:0<L)(hM:0<M):rk x y (x*x*L) (y*y*M)=ip (ssq x*L) (ssq y*M):=by
 have sq:∀ {x L:Int},x≠0→0<L→0<x*x*L:=fun {x L} h hL=>by
  have h0:0≤x*x:=by rw[←Int.natAbs_mul_self' x];exact Int.natCast_nonneg _
  have:x*x≠0:=fun e=>by rcases Int.mul_eq_zero.1 e with e | e<;>exact h e
  exact Int.mul_pos (by omega) hL
 have xL:x≠0→0<x*x*L:=fun h=>sq h hL;have yM:y≠0→0<y*y*M:=fun h=>sq h hM;have nx:-(x*x)*L = -(x*x*L):=by grind
 have ny:-(y*y)*M = -(y*y*M):=by grind
 have w1:wrap64 (-1) = -1:=aq (by omega) (by omega);have w2:wrap64 (-2) = -2:=aq (by omega) (by omega);have w3:wrap64 1=1:=aq (by omega) (by omega);have w4:wrap64 2=2:=aq (by omega) (by omega);have z0:ssq 0=0:=by simp[ssq]
 unfold rk;rcases Int.lt_trichotomy x 0 with hx0 | hx0 | hx0<;>rcases Int.lt_trichotomy y 0 with hy0 | hy0 | hy0
 ·rw[iB hx0,iB hy0,lX hx0,lX hy0,nx,ny,if_neg (by simp),show (-(-1):Int)=1 from rfl,w3];unfold ip;split
  ·rw[if_neg (by omega),if_pos (by omega)]
  ·split
   ·rw[if_pos (by omega)]
   ·rw[if_neg (by omega),if_neg (by omega)]
 ·subst hy0;have:=xL (by omega);rw[iB hx0,nV,lX hx0,z0,nx,wR (by omega),if_pos (by simp),show (-1-0:Int) = -1 from rfl,w1,iB (by omega)]
 ·have:=xL (by omega);have:=yM (by omega);rw[iB hx0,iC hy0,lX hx0,lY (by omega),nx,wR (by omega),if_pos (by simp),show (-1-1:Int) = -2 from rfl,w2,iB (by omega)]
 ·subst hx0;have:=yM (by omega);rw[iB hy0,nV,lX hy0,z0,ny,wQ (by omega),if_pos (by simp),show (0 - -1:Int)=1 from rfl,w3,iC (by omega)]
 ·subst hx0;subst hy0
  simp[ip,ssq,sgn]
 ·subst hx0;have:=yM (by omega);rw[iC hy0,nV,lY (x:=y) (by omega),z0,wR (by omega),if_pos (by simp),show (0-1:Int) = -1 from rfl,w1,iB (by omega)]
 ·have:=xL (by omega);have:=yM (by omega);rw[iC hx0,iB hy0,lX hy0,lY (by omega),ny,wQ (by omega),if_pos (by simp),show (1 - -1:Int)=2 from rfl,w4,iC (by omega)]
 ·subst hy0;have:=xL (by omega);rw[iC hx0,nV,lY (x:=x) (by omega),z0,wQ (by omega),if_pos (by simp),show (1-0:Int)=1 from rfl,w3,iC (by omega)]
 ·rw[iC hx0,iC hy0,lY (x:=x) (by omega),lY (x:=y) (by omega),if_neg (by simp),w1];rfl
abbrev St:=Int×Int×Int×Int
def stC(s:St):List Value:=[.int .i64 s.1,.int .i64 s.2.1,.int .i64 s.2.2.1,.int .i64 s.2.2.2]
def stA(L:List St)(i:Nat):St:=L.getD i (0,0,0,0)
def idB(n:Int):Bool:=decide (1≤n)&&decide (n≤9999)
def upB(L:List St)(i:Nat):Bool:=decide (i=0) || decide ((stA L (i-1)).1<(stA L i).1)
def eqI(a1 a2 a3 b1 b2 b3:Int):Bool:=decide (a1=b1∧a2=b2∧a3=b3)
def fK(x y z:Int):Bool:=eqI x y z (prI (ax x y z) (gI x y z) x) (prI (ax x y z) (gI x y z) y) (prI (ax x y z) (gI x y z) z)
def pR(p q:St):Bool:=ez p.2.1 p.2.2.1 p.2.2.2 q.2.1 q.2.2.1 q.2.2.2
def oE(L:List St)(s:St)(k:Nat):Prop:=∀j,j<k→pR s (stA L j)=false
def fw(L:List St)(s:St)(n:Nat):Bool:=(List.range n).any fun j=>pR s (stA L j)
def fA(L:List St)(i:Nat):Bool:=
 idB (stA L i).1&&upB L i&&(aN (stA L i).2.1 (stA L i).2.2.1 (stA L i).2.2.2&&fK (stA L i).2.1 (stA L i).2.2.1 (stA L i).2.2.2) && !fw L (stA L i) i
def yD(L:List St)(k:Nat):Prop:=∀j,j<k→fA L j=true
def bk(L:List St):Bool:=decide (L.length≤12)&&(List.range L.length).all (fA L)
theorem tf{L:List St}{s:St}{n:Nat}(h:oE L s n):fw L s n=false:=by
 unfold fw;rw[List.any_eq_false];intro j hj;rw[h j (List.mem_range.1 hj)];simp
theorem vu{L:List St}{s:St}{n j:Nat}(hj:j<n)(h:pR s (stA L j)=true):fw L s n=true:=by
 unfold fw;rw[List.any_eq_true];exact⟨j,List.mem_range.2 hj,h⟩
variable {a1 a2 a3 b1 b2 b3:Int} {k:Nat}
theorem uD{L:List St}{s:St}(h:oE L s k)(h1:pR s (stA L k)=false):oE L s (k+1):=by
 intro j hj;by_cases e:j=k
 ·rw[e];exact h1
 ·exact h j (by omega)
theorem wO{L:List St}(h:yD L k)(h1:fA L k=true):yD L (k+1):=by
 intro j hj;by_cases e:j=k
 ·rw[e];exact h1
 ·exact h j (by omega)
theorem xa{L:List St}(hl:L.length≤12)(h:yD L L.length):bk L=true:=by
 unfold bk;rw[Bool.and_eq_true,List.all_eq_true];exact⟨by simpa using hl,fun j hj=>h j (List.mem_range.1 hj)⟩
theorem jB{L:List St}(hk:k<L.length)(h:fA L k=false):bk L=false:=by
 unfold bk
 have:(List.range L.length).all (fA L)=false:=by
  rw[List.all_eq_false];exact⟨k,List.mem_range.2 hk,by rw[h];simp⟩
 rw[this,Bool.and_false]
theorem Gh{L:List St}(hl:12<L.length):bk L=false:=by
 unfold bk;rw[show decide (L.length≤12)=false by simp;omega,Bool.false_and]
theorem eu{L:List St}(h:bk L=true):L.length≤12∧yD L L.length:=by
 unfold bk at h;rw[Bool.and_eq_true,List.all_eq_true]at h;exact⟨by simpa using h.1,fun j hj=>h.2 j (List.mem_range.2 hj)⟩
theorem iU{L:List St}{i:Nat}(h:fA L i=true):aN (stA L i).2.1 (stA L i).2.2.1 (stA L i).2.2.2=true:=by
 unfold fA at h;simp only[Bool.and_eq_true]at h;exact h.1.2.1
theorem dD{x y z:Int}(h:aN x y z=true):ax x y z=true∧aM 10 x y z=true:=by simpa[aN] using h
theorem AC(ha:aN a1 a2 a3=true)(hb:aN b1 b2 b3=true):ez a1 a2 a3 b1 b2 b3=ez b1 b2 b3 a1 a2 a3:=by
 obtain⟨ra,wa⟩:=dD ha;obtain⟨rb,wb⟩:=dD hb;obtain⟨x1,x2,x3⟩:=bj.1 wa;obtain⟨y1,y2,y3⟩:=bj.1 wb;have e1:=eV x2 x3 y2 y3 (by omega);have e2:=eV x3 x1 y3 y1 (by omega);have e3:=eV x1 x2 y1 y2 (by omega);have f1:=eV y2 y3 x2 x3 (by omega);have f2:=eV y3 y1 x3 x1 (by omega);have f3:=eV y1 y2 x1 x2 (by omega);unfold ez;rw[ra,rb,e1.1,e2.1,e3.1,f1.1,f2.1,f3.1,uw];congr 2
 unfold iw;rw[Int.mul_comm b2,Int.mul_comm b3 a2,Int.mul_comm b3 a1,Int.mul_comm b1 a3,Int.mul_comm b1 a2,Int.mul_comm b2 a1];congr 1
 apply propext;constructor<;>rintro ⟨h1,h2,h3⟩<;>exact⟨by omega,by omega,by omega⟩
theorem Ii(ha:aN a1 a2 a3=true)(hb:aN b1 b2 b3=true):
  (eqI (crW a2 a3 b2 b3) (crW a3 a1 b3 b1) (crW a1 a2 b1 b2) 0 0 0&&decide (0<bX a1 a2 a3 b1 b2 b3))=ez a1 a2 a3 b1 b2 b3:=by
 unfold ez;rw[(dD ha).1,(dD hb).1];rfl
def inT(m a b c d:Int):Bool:=inB m a&&inB m b&&inB m c&&inB m d
def je(a b c d:Int):Bool:=decide (a=0∧b=0∧c=0∧d=0)
def fT(a b c d:Int):Int:=if a≠0 then a else if b≠0 then b else if c≠0 then c else d
def gT(a b c d:Int):Int:=((Int.gcd ((Int.gcd a b:Nat):Int) ((Int.gcd c d:Nat):Int):Nat):Int)
def sT(a b c d:Int):Int:=if fT a b c d<0 then -gT a b c d else gT a b c d
def aE(a b c d:Int):Bool:=inT 5 a b c d&&decide (0<fT a b c d)&&decide (gT a b c d=1)
def eqT(a b c d a' b' c' d':Int):Bool:=decide (a=a'∧b=b'∧c=c'∧d=d')
variable {a b c d m s x:Int}
theorem dx:inT m a b c d=true↔(-m≤a∧a≤m)∧(-m≤b∧b≤m)∧(-m≤c∧c≤m)∧(-m≤d∧d≤m):=by
 simp[inT,iy,and_assoc]
theorem yh{n:Int}(h:inT m a b c d=true)(hmn:m≤n):inT n a b c d=true:=by
 rw[dx]at h ⊢;omega
theorem qD:fT a b c d=0↔(a=0∧b=0∧c=0∧d=0):=by
 unfold fT;split
 ·omega
 ·split
  ·omega
  ·split<;>omega
theorem Ji(a b c d:Int):fT a b c d=a∨fT a b c d=b∨fT a b c d=c∨fT a b c d=d:=by
 unfold fT;split
 ·exact .inl rfl
 ·split
  ·exact .inr (.inl rfl)
  ·split
   ·exact .inr (.inr (.inl rfl))
   ·exact .inr (.inr (.inr rfl))
theorem CV(a b c d:Int):0≤gT a b c d:=Int.natCast_nonneg _
theorem Jl(h:¬(a=0∧b=0∧c=0∧d=0)):0<gT a b c d:=by
 unfold gT
 have h2:Int.gcd ((Int.gcd a b:Nat):Int) ((Int.gcd c d:Nat):Int)≠0:=by
  intro e;rw[Int.gcd_eq_zero_iff]at e;have e1:Int.gcd a b=0:=by omega
  have e2:Int.gcd c d=0:=by omega
  rw[Int.gcd_eq_zero_iff]at e1 e2;exact h ⟨e1.1,e1.2,e2.1,e2.2⟩
 omega
theorem rF(a b c d:Int):((Int.gcd ((Int.gcd ((Int.gcd ((Int.gcd 0 a:Nat):Int) b:Nat):Int) c:Nat):Int) d:Nat):Int)=gT a b c d:=by
 unfold gT
 have h1:Int.gcd ((Int.gcd 0 a:Nat):Int) b=Int.gcd a b:=by
  rw[Int.gcd_zero_left];show Nat.gcd (a.natAbs:Int).natAbs b.natAbs=Nat.gcd a.natAbs b.natAbs;rw[Int.natAbs_natCast]
 rw[h1];show ((Nat.gcd (Nat.gcd (Int.gcd a b) c.natAbs) d.natAbs:Nat):Int)=((Nat.gcd (Int.gcd a b) (Nat.gcd c.natAbs d.natAbs):Nat):Int);rw[Nat.gcd_assoc]
theorem IT(h:¬(a=0∧b=0∧c=0∧d=0)):sT a b c d≠0:=by
 have:=Jl h;unfold sT;split<;>omega
theorem iD{f:Int}(hf:f≠0)(h:f.tdiv s=f):s=1:=by
 have hn:f.natAbs / s.natAbs=f.natAbs:=by
  have e:(f.tdiv s).natAbs=f.natAbs / s.natAbs:=Int.natAbs_tdiv f s;rw[←e,h]
 have h0:s.natAbs≠0:=by
  intro e;rw[e,Nat.div_zero]at hn;omega
 have h1:s.natAbs<2:=by
  rcases Nat.lt_or_ge s.natAbs 2 with h | h
  ·exact h
  ·have:=Nat.div_lt_self (n:=f.natAbs) (k:=s.natAbs) (by omega) h;omega
 rcases(show s=1∨s = -1 by omega) with e | e
 ·exact e
 ·rw[e,Int.tdiv_neg,Int.tdiv_one]at h;omega
theorem Ct(hx:-m≤x∧x≤m):-m≤x.tdiv s∧x.tdiv s≤m:=by
 have h:(x.tdiv s).natAbs≤x.natAbs:=by rw[Int.natAbs_tdiv];exact Nat.div_le_self _ _
 omega
theorem tV(hz:¬(a=0∧b=0∧c=0∧d=0)):
  eqT a b c d (a.tdiv (sT a b c d)) (b.tdiv (sT a b c d)) (c.tdiv (sT a b c d)) (d.tdiv (sT a b c d))=(decide (0<fT a b c d)&&decide (gT a b c d=1)):=by
 have hf:fT a b c d≠0:=fun e=>hz (qD.1 e);rw[Bool.eq_iff_iff,Bool.and_eq_true,decide_eq_true_iff,decide_eq_true_iff];unfold eqT;rw[decide_eq_true_iff];constructor
 ·rintro ⟨h1,h2,h3,h4⟩
  have hs:sT a b c d=1:=by
   rcases Ji a b c d with e | e | e | e
   ·exact iD (e ▸ hf) h1.symm
   ·exact iD (e ▸ hf) h2.symm
   ·exact iD (e ▸ hf) h3.symm
   ·exact iD (e ▸ hf) h4.symm
  have hg:=CV a b c d;unfold sT at hs;split at hs<;>omega
 ·rintro ⟨h1,h2⟩;have hs:sT a b c d=1:=by unfold sT;rw[if_neg (by omega),h2]
  rw[hs];simp[Int.tdiv_one]
theorem du:aE a b c d=true↔inT 5 a b c d=true∧0<fT a b c d∧gT a b c d=1:=by
 simp[aE,and_assoc]
theorem oU(h:aE a b c d=true):¬(a=0∧b=0∧c=0∧d=0):=by
 have:=(du.1 h).2.1;intro e;rw[qD.2 e]at this;omega
def ofC(a b c d:Int):Int:=
 if inT 1000 a b c d && !je a b c d then
  if aE (a.tdiv (sT a b c d)) (b.tdiv (sT a b c d)) (c.tdiv (sT a b c d)) (d.tdiv (sT a b c d)) then 0 else 9
 else 1
def ofP(a b c d x:Int):Int:=if ofC a b c d=0 then x.tdiv (sT a b c d) else 0
theorem FA(h:(inT 1000 a b c d && !je a b c d)=false):ofC a b c d=1:=by unfold ofC;rw[h];rfl
theorem md:je a b c d=true↔(a=0∧b=0∧c=0∧d=0):=by simp[je]
def nT(a b c d:Int):Int:=a*a+b*b+c*c+d*d
theorem sqn(x:Int):0≤x*x:=by rw[←Int.natAbs_mul_self' x];exact Int.natCast_nonneg _
theorem sqp(h:x≠0):0<x*x:=by
 have:=sqn x;have:x*x≠0:=fun e=>by rcases Int.mul_eq_zero.1 e with e | e<;>exact h e
 omega
theorem Fo(h:¬(a=0∧b=0∧c=0∧d=0)):0<nT a b c d:=by
 have h1:=sqn a;have h2:=sqn b;have h3:=sqn c;have h4:=sqn d;unfold nT;by_cases ha:a=0
 ·by_cases hb:b=0
  ·by_cases hc:c=0
   ·have:=sqp (x:=d) (fun e=>h ⟨ha,hb,hc,e⟩);omega
   ·have:=sqp hc;omega
  ·have:=sqp hb;omega
 ·have:=sqp ha;omega
theorem Ka(h:inT 5 a b c d=true):nT a b c d≤100:=by
 rw[dx]at h;have h1:=bZ h.1 h.1;have h2:=bZ h.2.1 h.2.1;have h3:=bZ h.2.2.1 h.2.2.1;have h4:=bZ h.2.2.2 h.2.2.2;unfold nT;omega
def apX(a b c d x y z:Int):Int:=(a*a+b*b-c*c-d*d)*x+2*(b*c-a*d)*y+2*(b*d+a*c)*z
def apY(a b c d x y z:Int):Int:=2*(b*c+a*d)*x+(a*a-b*b+c*c-d*d)*y+2*(c*d-a*b)*z
def apZ(a b c d x y z:Int):Int:=2*(b*d-a*c)*x+2*(c*d+a*b)*y+(a*a-b*b-c*c+d*d)*z
theorem vH(a b c d x y z x' y' z':Int):
  dot (apX a b c d x y z) (apY a b c d x y z) (apZ a b c d x y z) (apX a b c d x' y' z') (apY a b c d x' y' z') (apZ a b c d x' y' z')=nT a b c d*nT a b c d*dot x y z x' y' z':=by
 unfold dot apX apY apZ nT;grind
def coA(s1 s2 s3 s4 t1 t2 t3 t4:Int):Int:=s1*t1-s2*t2-s3*t3-s4*t4
def coB(s1 s2 s3 s4 t1 t2 t3 t4:Int):Int:=s1*t2+s2*t1+s3*t4-s4*t3
def coC(s1 s2 s3 s4 t1 t2 t3 t4:Int):Int:=s1*t3-s2*t4+s3*t1+s4*t2
def coD(s1 s2 s3 s4 t1 t2 t3 t4:Int):Int:=s1*t4+s2*t3-s3*t2+s4*t1
variable {a b c d s1 s2 s3 s4 t1 t2 t3 t4 x y z:Int}
theorem IB(ht:inT 5 a b c d=true)(hv:aM 1800 x y z=true):
  wrap64 (wrap64 (wrap64 (wrap64 (wrap64 (wrap64 (wrap64 (a*a)+wrap64 (b*b))-wrap64 (c*c))-wrap64 (d*d))*x)+wrap64 (wrap64 (2*wrap64 (wrap64 (b*c)-wrap64 (a*d)))*y))+wrap64 (wrap64 (2*wrap64 (wrap64 (b*d)+wrap64 (a*c)))*z))=apX a b c d x y z:=by
 obtain⟨ha,hb,hc,hd⟩:=dx.1 ht;have h1:=bZ ha ha;have h2:=bZ hb hb;have h3:=bZ hc hc;have h4:=bZ hd hd;have h5:=bZ hb hc;have h6:=bZ ha hd;have h7:=bZ hb hd;have h8:=bZ ha hc
 rw[aq (n:=a*a) (by omega) (by omega),aq (n:=b*b) (by omega) (by omega),aq (n:=c*c) (by omega) (by omega),aq (n:=d*d) (by omega) (by omega),aq (n:=b*c) (by omega) (by omega),aq (n:=a*d) (by omega) (by omega),aq (n:=b*d) (by omega) (by omega),aq (n:=a*c) (by omega) (by omega),
  aq (n:=a*a+b*b) (by omega) (by omega),aq (n:=a*a+b*b-c*c) (by omega) (by omega),aq (n:=a*a+b*b-c*c-d*d) (by omega) (by omega),aq (n:=b*c-a*d) (by omega) (by omega),aq (n:=b*d+a*c) (by omega) (by omega),aq (n:=2*(b*c-a*d)) (by omega) (by omega),aq (n:=2*(b*d+a*c)) (by omega) (by omega)]
 exact dY (A:=100) (B:=1800) (bj.2 ⟨by omega,by omega,by omega⟩) hv (by omega)
theorem IC(ht:inT 5 a b c d=true)(hv:aM 1800 x y z=true):
  wrap64 (wrap64 (wrap64 (wrap64 (2*wrap64 (wrap64 (b*c)+wrap64 (a*d)))*x)+wrap64 (wrap64 (wrap64 (wrap64 (wrap64 (a*a)-wrap64 (b*b))+wrap64 (c*c))-wrap64 (d*d))*y))+wrap64 (wrap64 (2*wrap64 (wrap64 (c*d)-wrap64 (a*b)))*z))=apY a b c d x y z:=by
 obtain⟨ha,hb,hc,hd⟩:=dx.1 ht;have h1:=bZ ha ha;have h2:=bZ hb hb;have h3:=bZ hc hc;have h4:=bZ hd hd;have h5:=bZ hb hc;have h6:=bZ ha hd;have h7:=bZ hc hd;have h8:=bZ ha hb
 rw[aq (n:=a*a) (by omega) (by omega),aq (n:=b*b) (by omega) (by omega),aq (n:=c*c) (by omega) (by omega),aq (n:=d*d) (by omega) (by omega),aq (n:=b*c) (by omega) (by omega),aq (n:=a*d) (by omega) (by omega),aq (n:=c*d) (by omega) (by omega),aq (n:=a*b) (by omega) (by omega),
  aq (n:=a*a-b*b) (by omega) (by omega),aq (n:=a*a-b*b+c*c) (by omega) (by omega),aq (n:=a*a-b*b+c*c-d*d) (by omega) (by omega),aq (n:=b*c+a*d) (by omega) (by omega),aq (n:=c*d-a*b) (by omega) (by omega),aq (n:=2*(b*c+a*d)) (by omega) (by omega),aq (n:=2*(c*d-a*b)) (by omega) (by omega)]
 exact dY (A:=100) (B:=1800) (bj.2 ⟨by omega,by omega,by omega⟩) hv (by omega)
theorem ID(ht:inT 5 a b c d=true)(hv:aM 1800 x y z=true):
  wrap64 (wrap64 (wrap64 (wrap64 (2*wrap64 (wrap64 (b*d)-wrap64 (a*c)))*x)+wrap64 (wrap64 (2*wrap64 (wrap64 (c*d)+wrap64 (a*b)))*y))+wrap64 (wrap64 (wrap64 (wrap64 (wrap64 (a*a)-wrap64 (b*b))-wrap64 (c*c))+wrap64 (d*d))*z))=apZ a b c d x y z:=by
 obtain⟨ha,hb,hc,hd⟩:=dx.1 ht;have h1:=bZ ha ha;have h2:=bZ hb hb;have h3:=bZ hc hc;have h4:=bZ hd hd;have h5:=bZ hb hd;have h6:=bZ ha hc;have h7:=bZ hc hd;have h8:=bZ ha hb
 rw[aq (n:=a*a) (by omega) (by omega),aq (n:=b*b) (by omega) (by omega),aq (n:=c*c) (by omega) (by omega),aq (n:=d*d) (by omega) (by omega),aq (n:=b*d) (by omega) (by omega),aq (n:=a*c) (by omega) (by omega),aq (n:=c*d) (by omega) (by omega),aq (n:=a*b) (by omega) (by omega),
  aq (n:=a*a-b*b) (by omega) (by omega),aq (n:=a*a-b*b-c*c) (by omega) (by omega),aq (n:=a*a-b*b-c*c+d*d) (by omega) (by omega),aq (n:=b*d-a*c) (by omega) (by omega),aq (n:=c*d+a*b) (by omega) (by omega),aq (n:=2*(b*d-a*c)) (by omega) (by omega),aq (n:=2*(c*d+a*b)) (by omega) (by omega)]
 exact dY (A:=100) (B:=1800) (bj.2 ⟨by omega,by omega,by omega⟩) hv (by omega)
theorem IF(hs:inT 5 s1 s2 s3 s4=true)(ht:inT 5 t1 t2 t3 t4=true):
  wrap64 (wrap64 (wrap64 (wrap64 (s1*t1)-wrap64 (s2*t2))-wrap64 (s3*t3))-wrap64 (s4*t4))=coA s1 s2 s3 s4 t1 t2 t3 t4∧-100≤coA s1 s2 s3 s4 t1 t2 t3 t4∧coA s1 s2 s3 s4 t1 t2 t3 t4≤100:=by
 obtain⟨ha,hb,hc,hd⟩:=dx.1 hs;obtain⟨ka,kb,kc,kd⟩:=dx.1 ht;have h1:=bZ ha ka;have h2:=bZ hb kb;have h3:=bZ hc kc;have h4:=bZ hd kd;unfold coA;rw[aq (n:=s1*t1) (by omega) (by omega),aq (n:=s2*t2) (by omega) (by omega),aq (n:=s3*t3) (by omega) (by omega),aq (n:=s4*t4) (by omega) (by omega),aq (n:=s1*t1-s2*t2) (by omega) (by omega),aq (n:=s1*t1-s2*t2-s3*t3) (by omega) (by omega),aq (by omega) (by omega)];omega
theorem IG(hs:inT 5 s1 s2 s3 s4=true)(ht:inT 5 t1 t2 t3 t4=true):
  wrap64 (wrap64 (wrap64 (wrap64 (s1*t2)+wrap64 (s2*t1))+wrap64 (s3*t4))-wrap64 (s4*t3))=coB s1 s2 s3 s4 t1 t2 t3 t4∧-100≤coB s1 s2 s3 s4 t1 t2 t3 t4∧coB s1 s2 s3 s4 t1 t2 t3 t4≤100:=by
 obtain⟨ha,hb,hc,hd⟩:=dx.1 hs;obtain⟨ka,kb,kc,kd⟩:=dx.1 ht;have h1:=bZ ha kb;have h2:=bZ hb ka;have h3:=bZ hc kd;have h4:=bZ hd kc;unfold coB;rw[aq (n:=s1*t2) (by omega) (by omega),aq (n:=s2*t1) (by omega) (by omega),aq (n:=s3*t4) (by omega) (by omega),aq (n:=s4*t3) (by omega) (by omega),aq (n:=s1*t2+s2*t1) (by omega) (by omega),aq (n:=s1*t2+s2*t1+s3*t4) (by omega) (by omega),aq (by omega) (by omega)];omega
theorem IH(hs:inT 5 s1 s2 s3 s4=true)(ht:inT 5 t1 t2 t3 t4=true):
  wrap64 (wrap64 (wrap64 (wrap64 (s1*t3)-wrap64 (s2*t4))+wrap64 (s3*t1))+wrap64 (s4*t2))=coC s1 s2 s3 s4 t1 t2 t3 t4∧-100≤coC s1 s2 s3 s4 t1 t2 t3 t4∧coC s1 s2 s3 s4 t1 t2 t3 t4≤100:=by
 obtain⟨ha,hb,hc,hd⟩:=dx.1 hs;obtain⟨ka,kb,kc,kd⟩:=dx.1 ht;have h1:=bZ ha kc;have h2:=bZ hb kd;have h3:=bZ hc ka;have h4:=bZ hd kb;unfold coC;rw[aq (n:=s1*t3) (by omega) (by omega),aq (n:=s2*t4) (by omega) (by omega),aq (n:=s3*t1) (by omega) (by omega),aq (n:=s4*t2) (by omega) (by omega),aq (n:=s1*t3-s2*t4) (by omega) (by omega),aq (n:=s1*t3-s2*t4+s3*t1) (by omega) (by omega),aq (by omega) (by omega)];omega
theorem II(hs:inT 5 s1 s2 s3 s4=true)(ht:inT 5 t1 t2 t3 t4=true):
  wrap64 (wrap64 (wrap64 (wrap64 (s1*t4)+wrap64 (s2*t3))-wrap64 (s3*t2))+wrap64 (s4*t1))=coD s1 s2 s3 s4 t1 t2 t3 t4∧-100≤coD s1 s2 s3 s4 t1 t2 t3 t4∧coD s1 s2 s3 s4 t1 t2 t3 t4≤100:=by
 obtain⟨ha,hb,hc,hd⟩:=dx.1 hs;obtain⟨ka,kb,kc,kd⟩:=dx.1 ht;have h1:=bZ ha kd;have h2:=bZ hb kc;have h3:=bZ hc kb;have h4:=bZ hd ka;unfold coD;rw[aq (n:=s1*t4) (by omega) (by omega),aq (n:=s2*t3) (by omega) (by omega),aq (n:=s3*t2) (by omega) (by omega),aq (n:=s4*t1) (by omega) (by omega),aq (n:=s1*t4+s2*t3) (by omega) (by omega),aq (n:=s1*t4+s2*t3-s3*t2) (by omega) (by omega),aq (by omega) (by omega)];omega
def apR(a b c d x y z:Int):Bool:=aE a b c d&&cy x y z
def apI(r:Bool)(v:Int):Int:=if r then v else 0
def coR(s1 s2 s3 s4 t1 t2 t3 t4:Int):Bool:=aE s1 s2 s3 s4&&aE t1 t2 t3 t4
def coK(s1 s2 s3 s4 t1 t2 t3 t4:Int):Int:=
 if coR s1 s2 s3 s4 t1 t2 t3 t4 then ofC (coA s1 s2 s3 s4 t1 t2 t3 t4) (coB s1 s2 s3 s4 t1 t2 t3 t4) (coC s1 s2 s3 s4 t1 t2 t3 t4) (coD s1 s2 s3 s4 t1 t2 t3 t4) else 1
def coP(s1 s2 s3 s4 t1 t2 t3 t4 v:Int):Int:=
 if coR s1 s2 s3 s4 t1 t2 t3 t4 then ofP (coA s1 s2 s3 s4 t1 t2 t3 t4) (coB s1 s2 s3 s4 t1 t2 t3 t4) (coC s1 s2 s3 s4 t1 t2 t3 t4) (coD s1 s2 s3 s4 t1 t2 t3 t4) v else 0
theorem Ez{m:Int}(hm:0≤m)(h:x*x≤m*m):-m≤x∧x≤m:=by
 have h1:x.natAbs*x.natAbs≤m.natAbs*m.natAbs:=by
  have e1:=Int.natAbs_mul_self' x;have e2:=Int.natAbs_mul_self' m;omega
 have:=Nat.mul_self_le_mul_self_iff.1 h1;omega
theorem EA{D M:Int}(ht:aE a b c d=true)(hD:dot x y z x y z≤D)(hM:0≤M)(h:10000*D≤M*M):aM M (apX a b c d x y z) (apY a b c d x y z) (apZ a b c d x y z)=true:=by
 have hn:=Ka (du.1 ht).1;have hp:=Fo (oU ht);have hn2:=bZ (A:=100) (B:=100) (a:=nT a b c d) (b:=nT a b c d) (by omega) (by omega);have hd:=vH a b c d x y z x y z;have h0:0≤dot x y z x y z:=by have h1:=sqn x;have h2:=sqn y;have h3:=sqn z;unfold dot;omega
 have hm:=bZ (A:=10000) (B:=D) (a:=nT a b c d*nT a b c d) (b:=dot x y z x y z) (by omega) (by omega);have s1:=sqn (apX a b c d x y z);have s2:=sqn (apY a b c d x y z);have s3:=sqn (apZ a b c d x y z);have hdd:dot (apX a b c d x y z) (apY a b c d x y z) (apZ a b c d x y z) (apX a b c d x y z) (apY a b c d x y z) (apZ a b c d x y z)=apX a b c d x y z*apX a b c d x y z+apY a b c d x y z*apY a b c d x y z+apZ a b c d x y z*apZ a b c d x y z:=rfl;rw[bj];exact⟨Ez hM (by omega),Ez hM (by omega),Ez hM (by omega)⟩
end
section
structure Tk where
 L:List St
 lim:Int
 mode:Int
 A:Int
 B:Int
 C:Int
 D:Int
 coast:Int
 fr:Int
def bE(lo hi x:Int):Bool:=decide (lo≤x)&&decide (x≤hi)
def jM(t:Tk):Bool:=
 if t.mode=0 then eqT t.A t.B t.C t.D 0 0 0 0&&decide (t.coast=0)
 else if t.mode=1 then aE t.A t.B t.C t.D&&decide (t.coast=0)
 else if t.mode=2 then aE t.A t.B t.C t.D&&bE 1 t.lim t.coast
 else false
def rJ(t:Tk):Bool:=bk t.L&&bE 1 5 t.lim&&bE 0 1000000 t.fr
def aZ(t:Tk):Bool:=rJ t&&jM t
variable {hi x:Int}
theorem yY{lo:Int}(h1:lo≤x)(h2:x≤hi):bE lo hi x=true:=by unfold bE;rw[decide_eq_true h1,decide_eq_true h2];rfl
theorem lA{lo:Int}(h:¬lo≤x):bE lo hi x=false:=by unfold bE;rw[decide_eq_false h];rfl
theorem vl{lo:Int}(h:¬x≤hi):bE lo hi x=false:=by unfold bE;rw[decide_eq_false h];simp
theorem jW{lo:Int}:bE lo hi x=true↔lo≤x∧x≤hi:=by unfold bE;simp
theorem vw{t:Tk}(h:bk t.L=false):aZ t=false:=by unfold aZ rJ;rw[h];rfl
theorem pi{t:Tk}(h:bE 1 5 t.lim=false):aZ t=false:=by unfold aZ rJ;rw[h];simp
theorem pj{t:Tk}(h:bE 0 1000000 t.fr=false):aZ t=false:=by unfold aZ rJ;rw[h];simp
theorem ti{t:Tk}(h1:bk t.L=true)(h2:bE 1 5 t.lim=true)(h3:bE 0 1000000 t.fr=true):aZ t=jM t:=by unfold aZ rJ;rw[h1,h2,h3];rfl
theorem Fm{t:Tk}(h:t.mode=0):jM t=(eqT t.A t.B t.C t.D 0 0 0 0&&decide (t.coast=0)):=by unfold jM;rw[if_pos h]
theorem Al{t:Tk}(h:t.mode=1):jM t=(aE t.A t.B t.C t.D&&decide (t.coast=0)):=by unfold jM;rw[if_neg (by omega),if_pos h]
theorem Am{t:Tk}(h:t.mode=2):jM t=(aE t.A t.B t.C t.D&&bE 1 t.lim t.coast):=by unfold jM;rw[if_neg (by omega),if_neg (by omega),if_pos h]
theorem An{t:Tk}(h0:t.mode≠0)(h1:t.mode≠1)(h2:t.mode≠2):jM t=false:=by unfold jM;rw[if_neg h0,if_neg h1,if_neg h2]
theorem AW{t:Tk}(h:aZ t=true):jM t=true:=by unfold aZ at h;rw[Bool.and_eq_true]at h;exact h.2
theorem AX{t:Tk}(h:aZ t=true)(h0:t.mode≠0):aE t.A t.B t.C t.D=true:=by
 have hm:=AW h;by_cases h1:t.mode=1
 ·rw[Al h1,Bool.and_eq_true]at hm;exact hm.1
 ·by_cases h2:t.mode=2
  ·rw[Am h2,Bool.and_eq_true]at hm;exact hm.1
  ·rw[An h0 h1 h2]at hm;cases hm
def Fi(t:Tk):Tk:={ t with mode:=0,A:=0,B:=0,C:=0,D:=0,coast:=0 }
def eh:Tk:=⟨[],0,0,0,0,0,0,0,0⟩
end
section
open Go.RowKit
abbrev D3:=Int×Int×Int
def vA(L:List D3)(i:Nat):D3:=L.getD i (0,0,0)
def jY(v:D3):Bool:=cy v.1 v.2.1 v.2.2
def bS(p q:D3):Bool:=ez p.1 p.2.1 p.2.2 q.1 q.2.1 q.2.2
def eA(L:List D3)(v:D3)(n:Nat):Bool:=(List.range n).any fun j=>bS v (vA L j)
def nk(L:List D3)(v:D3)(k:Nat):Prop:=∀j,j<k→bS v (vA L j)=false
def okV(L:List D3)(i:Nat):Bool:=jY (vA L i) && !eA L (vA L i) i
def uX(L:List D3)(k:Nat):Prop:=∀j,j<k→okV L j=true
def aL(L:List D3):Bool:=decide (L.length≤6)&&(List.range L.length).all (okV L)
theorem xy{L:List D3}{v:D3}{n:Nat}(h:nk L v n):eA L v n=false:=by
 unfold eA;rw[List.any_eq_false];intro j hj;rw[h j (List.mem_range.1 hj)];simp
theorem un{L:List D3}{v:D3}{n j:Nat}(hj:j<n)(h:bS v (vA L j)=true):eA L v n=true:=by
 unfold eA;rw[List.any_eq_true];exact⟨j,List.mem_range.2 hj,h⟩
variable {k:Nat}
theorem qY{L:List D3}{v:D3}(h:nk L v k)(h1:bS v (vA L k)=false):nk L v (k+1):=by
 intro j hj;by_cases e:j=k
 ·rw[e];exact h1
 ·exact h j (by omega)
theorem yE{L:List D3}(h:uX L k)(h1:okV L k=true):uX L (k+1):=by
 intro j hj;by_cases e:j=k
 ·rw[e];exact h1
 ·exact h j (by omega)
theorem lW{L:List D3}(hl:L.length≤6)(h:uX L L.length):aL L=true:=by
 unfold aL;rw[Bool.and_eq_true,List.all_eq_true];exact⟨by simpa using hl,fun j hj=>h j (List.mem_range.1 hj)⟩
theorem oa{L:List D3}(hk:k<L.length)(h:okV L k=false):aL L=false:=by
 unfold aL
 have:(List.range L.length).all (okV L)=false:=by
  rw[List.all_eq_false];exact⟨k,List.mem_range.2 hk,by rw[h];simp⟩
 rw[this,Bool.and_false]
theorem sV{L:List D3}(hl:6<L.length):aL L=false:=by
 unfold aL;rw[show decide (L.length≤6)=false by simp;omega,Bool.false_and]
theorem bK{L:List D3}(h:aL L=true):L.length≤6∧uX L L.length:=by
 unfold aL at h;rw[Bool.and_eq_true,List.all_eq_true]at h;exact⟨by simpa using h.1,fun j hj=>h.2 j (List.mem_range.2 hj)⟩
theorem lq{L:List D3}{i:Nat}(h:okV L i=true):jY (vA L i)=true:=by
 unfold okV at h;rw[Bool.and_eq_true]at h;exact h.1
theorem fU{x y z:Int}(h:cy x y z=true):ax x y z=true∧aM 1800 x y z=true:=by simpa[cy] using h
theorem pS{a1 a2 a3 b1 b2 b3:Int}(ra:ax a1 a2 a3=true)(rb:ax b1 b2 b3=true):ez a1 a2 a3 b1 b2 b3=ez b1 b2 b3 a1 a2 a3:=by
 obtain⟨⟨x1,x2,x3⟩,_⟩:=bC.1 ra;obtain⟨⟨y1,y2,y3⟩,_⟩:=bC.1 rb;have e1:=eV x2 x3 y2 y3 (by omega);have e2:=eV x3 x1 y3 y1 (by omega);have e3:=eV x1 x2 y1 y2 (by omega);have f1:=eV y2 y3 x2 x3 (by omega);have f2:=eV y3 y1 x3 x1 (by omega);have f3:=eV y1 y2 x1 x2 (by omega);unfold ez;rw[ra,rb,e1.1,e2.1,e3.1,f1.1,f2.1,f3.1,uw];congr 2
 unfold iw;rw[Int.mul_comm b2,Int.mul_comm b3 a2,Int.mul_comm b3 a1,Int.mul_comm b1 a3,Int.mul_comm b1 a2,Int.mul_comm b2 a1];congr 1
 apply propext;constructor<;>rintro ⟨h1,h2,h3⟩<;>exact⟨by omega,by omega,by omega⟩
theorem wX{p q:D3}(hp:jY p=true)(hq:jY q=true):bS p q=bS q p:=pS (fU hp).1 (fU hq).1
end
section
open Go.RowKit
variable {b r:Nat} {k p q:Prop}
theorem yz(h:p):Hid p:=h
theorem yx(h:Hid p):p:=h
theorem an(h:Hid p)(x:k)(f:p→k→q:=by exact fun h x=>h.kept x):Hid q:=yz (f (yx h) x)
theorem aI{l:Prop}(h:Hid p)(x:k)(y:l)(f:p→k→l→q:=by exact fun h x y=>(h.kept x).kept y):Hid q:=yz (f (yx h) x y)
def step(r:Nat):Nat:=if r % 2=1 then (r / 2) ^^^ 3988292384 else r / 2
def gF:Nat→Nat→Nat
 | 0,r=>r
 | k+1,r=>step (gF k r)
def fc:Nat→Nat→Nat→Nat
 | 0,r,_=>r
 | k+1,r,b=>if (fc k r b ^^^ (b / 2 ^ k)) % 2=1 then (fc k r b / 2) ^^^ 3988292384 else fc k r b / 2
def lJ(r b:Nat):Nat:=gF 8 (r ^^^ b)
theorem GP(a b:Nat):(a ^^^ b) / 2=(a / 2) ^^^ (b / 2):=by
 apply Nat.eq_of_testBit_eq;intro i
 simp[Nat.testBit_xor,←Nat.testBit_succ]
theorem zi(k r b:Nat):gF k (r ^^^ b)=fc k r b ^^^ (b / 2 ^ k):=by
 induction k with
 | zero=>simp[gF,fc]
 | succ k ih=>
  have e:b / 2 ^ (k+1)=b / 2 ^ k / 2:=by rw[Nat.pow_succ,Nat.div_div_eq_div_mul]
  simp only[gF,step,fc,ih,e,GP];by_cases h:(fc k r b ^^^ b / 2 ^ k) % 2=1
  ·simp only[h,if_true];rw[Nat.xor_assoc,Nat.xor_assoc,Nat.xor_comm (b / 2 ^ k / 2)]
  ·simp only[h,if_false]
theorem Hr(r b:Nat)(hb:b<256):fc 8 r b=lJ r b:=by
 have h:=zi 8 r b;rw[show b / 2 ^ 8=0 by omega,Nat.xor_zero]at h;exact h.symm
theorem fx{a:Nat}(ha:a<4294967296)(hb:b<4294967296):a ^^^ b<4294967296:=Nat.xor_lt_two_pow (n:=32) ha hb
theorem Io(h:r<4294967296):step r<4294967296:=by
 unfold step;split
 ·exact fx (by omega) (by omega)
 ·omega
theorem zj(k:Nat){r:Nat}(h:r<4294967296):gF k r<4294967296:=by
 induction k with
 | zero=>exact h
 | succ k ih=>exact Io ih
theorem EY(k b:Nat){r:Nat}(h:r<4294967296):fc k r b<4294967296:=by
 induction k with
 | zero=>exact h
 | succ k ih=>
  unfold fc;split
  ·exact fx (by omega) (by omega)
  ·omega
theorem zO(h:r<4294967296)(hb:b<256):lJ r b<4294967296:=zj 8 (fx h (by omega))
def dc(s:ByteArray)(i:Nat):Nat:=if h:i<s.size then s[i].toNat else 0
theorem dX{s:ByteArray}{k:Nat}(h:k<s.size):dc s k=s[k].toNat:=by simp[dc,h]
theorem ou(s:ByteArray)(k:Nat):dc s k<256:=by
 unfold dc;split
 ·exact UInt8.toNat_lt _
 ·omega
def gJ(s:ByteArray)(r:Nat):Nat→Nat
 | 0=>r
 | k+1=>lJ (gJ s r k) (dc s k)
theorem rl(s:ByteArray){r:Nat}(h:r<4294967296)(k:Nat):gJ s r k<4294967296:=by
 induction k with
 | zero=>exact h
 | succ k ih=>exact zO ih (ou s k)
def iN(c:Nat)(s:ByteArray):Nat:=gJ s (c ^^^ 4294967295) s.size ^^^ 4294967295
theorem nr{c:Nat}(s:ByteArray)(h:c<4294967296):iN c s<4294967296:=fx (rl s (fx h (by omega)) _) (by omega)
theorem xz(a:Nat)(ha:a<4294967296):bits .and .u32 (a:Int) 1=((a % 2:Nat):Int):=by
 have h:=u32_and_nat a 1 ha (by omega);rw[nat_mask1]at h;exact h
theorem Hz(x b k:Nat)(hx:x<4294967296)(hb:b<256):
  bits .and .u32 (bits .xor .u32 (x:Int) ((b:Int) / 2 ^ k % 4294967296)) 1=(((x ^^^ (b / 2 ^ k)) % 2:Nat):Int):=by
 have e:((b:Int) / 2 ^ k % 4294967296)=((b / 2 ^ k:Nat):Int):=by
  have hle:b / 2 ^ k≤b:=Nat.div_le_self _ _;have:((b:Int) / 2 ^ k)=((b / 2 ^ k:Nat):Int):=by push_cast;rfl
  rw[this];clear this;generalize b / 2 ^ k=q at *;omega
 have hle:b / 2 ^ k≤b:=Nat.div_le_self _ _;rw[e,u32_xor_nat x (b / 2 ^ k) hx (by omega),xz _ (fx hx (by omega))]
theorem JQ(x:Nat)(h:x<4294967296):bits .xor .u32 (x:Int) 4294967295=((x ^^^ 4294967295:Nat):Int):=u32_xor_nat x 4294967295 h (by omega)
theorem Iw:IntKind.u32.max=4294967295:=by decide
theorem GO(x:Nat)(h:x<4294967296):bits .xor .u32 IntKind.u32.max (x:Int)=((x ^^^ 4294967295:Nat):Int):=by
 rw[Iw,Nat.xor_comm];exact u32_xor_nat 4294967295 x (by omega) h
theorem tq(x:Nat)(h:x<4294967296):wrap64 (x:Int)=(x:Int):=by
 unfold wrap64;omega
end
section
open Go.Value renaming int → J
open Go.IntKind renaming i64 → Z
open Go.RowKit
theorem ak(w:World)(a:Obj):Below w.heap.size w (w.alloc a):=(Below.refl _ _).alloc (Nat.le_refl _) _
theorem aF(w:World)(a b:Obj):Below w.heap.size w ((w.alloc a).alloc b):=(ak w a).alloc (by simp) _
theorem bq(w:World)(a b c:Obj):Below w.heap.size w (((w.alloc a).alloc b).alloc c):=(aF w a b).alloc (by simp;omega) _
variable {w w1 w2:World}
theorem aj(h:Below w.heap.size w w1)(h2:Below w1.heap.size w1 w2):Below w.heap.size w w2:=h.trans (h2.mono h.size)
theorem aA(h:Hid (Below w.heap.size w w1))(x:Below w1.heap.size w1 w2):Hid (Below w.heap.size w w2):=yz (aj (yx h) x)
theorem vf(x y z:Int)(w:World):
  Calls Tryz.prog 191 #[.agg #[J Z x,J Z y,J Z z]] w fun e w'=>e=.returned (.agg #[J Z x,J Z y,J Z z])∧Below w.heap.size w w':=by
 go_enter Tryz.func191,Tryz.ntmps191;go_wp2;exact bodyPost_ret (v:=.agg #[J Z x,J Z y,J Z z]) (by simp[results,Tryz.results191,go_sem]) rfl ⟨rfl,aF _ _ _⟩
theorem ph(a1 a2 a3 b1 b2 b3:Int)(w:World):
  Calls Tryz.prog 213 #[.agg #[J Z a1,J Z a2,J Z a3],.agg #[J Z b1,J Z b2,J Z b3]] w fun e w'=>e=.returned (J Z (bX a1 a2 a3 b1 b2 b3))∧Below w.heap.size w w':=by
 go_enter Tryz.func213,Tryz.ntmps213;go_wp2;go_ret;exact⟨rfl,aF _ _ _⟩
theorem gU(a1 a2 a3 b1 b2 b3:Int)(w:World):
  Calls Tryz.prog 139 #[.agg #[J Z a1,J Z a2,J Z a3],.agg #[J Z b1,J Z b2,J Z b3]] w fun e w'=>e=.returned (J Z (bX a1 a2 a3 b1 b2 b3))∧Below w.heap.size w w':=by
 go_enter Tryz.func139,Tryz.ntmps139;go_wp2;go_ret;exact⟨rfl,aF _ _ _⟩
theorem bp(n lo hi:Int)(w:World):
  Calls Tryz.prog 57 #[J Z n,J Z lo,J Z hi] w fun e w'=>e=.returned (.bool (decide (lo≤n)&&decide (n≤hi)))∧w'=w:=by
 by_cases h:lo≤n
 ·go_enter Tryz.func57,Tryz.ntmps57;go_wp2;go_ret;exact⟨by simp[h],rfl⟩
 ·go_enter Tryz.func57,Tryz.ntmps57;go_wp2;go_ret;exact⟨by simp;omega,rfl⟩
end
section
open Go.Value renaming int → J
open Go.IntKind renaming i64 → Z
open Go.RowKit Go.Sort
def di(wd ht:Int)(s:ByteArray):Bool:=decide (1≤wd)&&decide (wd≤16)&&decide (1≤ht)&&decide (ht≤12)&&decide ((s.size:Int)=wd*ht)
def jK(ar:Int)(ed:Bool)(lo hi:Int):Bool:=decide (lo≤ar)&&decide (ar≤hi) && !ed
variable {s:ByteArray} {hi:Int}
theorem gO{wd ht:Int}:di wd ht s=true↔(1≤wd∧wd≤16∧1≤ht∧ht≤12∧(s.size:Int)=wd*ht):=by
 unfold di;simp only[Bool.and_eq_true,decide_eq_true_eq,and_assoc]
theorem yd{ar lo:Int}{ed:Bool}(h1:lo≤ar)(h2:ar≤hi):jK ar ed lo hi = !ed:=by unfold jK;simp[h1,h2]
theorem qF{ar lo:Int}{ed:Bool}(h:ar<lo∨hi<ar):jK ar ed lo hi=false:=by
 unfold jK;rcases h with h | h
 ·rw[show decide (lo≤ar)=false by simp;omega];rfl
 ·rw[show decide (ar≤hi)=false by simp;omega];simp
theorem jI{wd ht:Int}(h:wd<1∨16<wd∨ht<1∨12<ht):di wd ht s=false:=by
 cases e:di wd ht s
 ·rfl
 ·have:=gO.1 e;omega
theorem gl(wd ht:Int)(s:ByteArray)(w:World):
  Calls Tryz.prog 61 #[.agg #[J Z wd,J Z ht,.string s]] w fun e w'=>e=.returned (.bool (di wd ht s))∧Below w.heap.size w w':=by
 go_enter Tryz.func61,Tryz.ntmps61;go_wp2_with fail;refine(bp wd 1 16 _).mono ?_;rintro e w1 ⟨rfl,rfl⟩;by_cases h1:1≤wd∧wd≤16
 ·have e1:(decide (1≤wd)&&decide (wd≤16))=true:=by simp[h1]
  rw[e1];go_wp2_with fail;refine(bp ht 1 12 _).mono ?_;rintro e w1 ⟨rfl,rfl⟩;by_cases h2:1≤ht∧ht≤12
  ·have e2:(decide (1≤ht)&&decide (ht≤12))=true:=by simp[h2]
   rw[e2];obtain⟨a1,a2⟩:=h1;obtain⟨a3,a4⟩:=h2
   have hm:wrap64 (wd*ht)=wd*ht:=by
    have h0:=Int.mul_nonneg (show 0≤wd by omega) (show 0≤ht by omega);have h1:=Int.mul_le_mul a2 a4 (by omega) (by omega);exact aq (by omega) (by omega)
   have HF:Hid (di wd ht s=decide ((s.size:Int)=wd*ht)):=yz (by unfold di;simp[a1,a2,a3,a4]);clear e1 e2;go_wp2_with fail;go_ret;exact⟨by rw[yx HF];rfl,ak _ _⟩
  ·have e2:(decide (1≤ht)&&decide (ht≤12))=false:=by simp;omega
   rw[e2];go_wp2_with fail;go_ret;exact⟨by rw[jI (by omega)];rfl,ak _ _⟩
 ·have e1:(decide (1≤wd)&&decide (wd≤16))=false:=by simp;omega
  rw[e1];go_wp2_with fail;go_ret;exact⟨by rw[jI (by omega)];rfl,ak _ _⟩
theorem iP(wd ht:Int)(s:ByteArray)(w:World):
  Calls Tryz.prog 76 #[.agg #[J Z wd,J Z ht,.string s]] w fun e w'=>e=.returned (.bool (di wd ht s))∧Below w.heap.size w w':=by
 by_cases h1:wd<1
 ·go_enter Tryz.func76,Tryz.ntmps76;go_wp2_with fail;go_ret;exact⟨by rw[jI (by omega)];rfl,ak _ _⟩
 by_cases h2:16<wd
 ·go_enter Tryz.func76,Tryz.ntmps76;go_wp2_with fail;go_ret;exact⟨by rw[jI (by omega)];rfl,ak _ _⟩
 by_cases h3:ht<1
 ·go_enter Tryz.func76,Tryz.ntmps76;go_wp2_with fail;go_ret;exact⟨by rw[jI (by omega)];rfl,ak _ _⟩
 by_cases h4:12<ht
 ·go_enter Tryz.func76,Tryz.ntmps76;go_wp2_with fail;go_ret;exact⟨by rw[jI (by omega)];rfl,ak _ _⟩
 have hm:wrap64 (wd*ht)=wd*ht:=by
  have h0:=Int.mul_nonneg (show 0≤wd by omega) (show 0≤ht by omega);have h1:=Int.mul_le_mul (show wd≤16 by omega) (show ht≤12 by omega) (by omega) (by omega);exact aq (by omega) (by omega)
 have HF:Hid (di wd ht s=decide ((s.size:Int)=wd*ht)):=yz (by
  unfold di;rw[show decide (1≤wd)=true by simp;omega,show decide (wd≤16)=true by simp;omega,show decide (1≤ht)=true by simp;omega,show decide (ht≤12)=true by simp;omega]
  rfl)
 go_enter Tryz.func76,Tryz.ntmps76;go_wp2_with fail;go_ret;exact⟨by rw[yx HF];rfl,ak _ _⟩
theorem oZ(ar su sx sy:Int)(ed:Bool)(lo hi:Int)(w:World):
  Calls Tryz.prog 110 #[.agg #[J Z ar,J Z su,J Z sx,J Z sy,.bool ed],J Z lo,J Z hi] w fun e w'=>e=.returned (.bool (jK ar ed lo hi))∧Below w.heap.size w w':=by
 by_cases h1:lo≤ar
 ·by_cases h2:ar≤hi
  ·go_enter Tryz.func110,Tryz.ntmps110;go_wp2_with fail;go_ret;exact⟨by rw[yd h1 h2];rfl,ak _ _⟩
  ·go_enter Tryz.func110,Tryz.ntmps110;go_wp2_with fail;go_ret;exact⟨by rw[qF (by omega)];rfl,ak _ _⟩
 ·go_enter Tryz.func110,Tryz.ntmps110;go_wp2_with fail;go_ret;exact⟨by rw[qF (by omega)];rfl,ak _ _⟩
theorem vK(ar su sx sy:Int)(ed:Bool)(lo hi:Int)(w:World):
  Calls Tryz.prog 154 #[.agg #[J Z ar,J Z su,J Z sx,J Z sy,.bool ed],J Z lo,J Z hi] w fun e w'=>e=.returned (.bool (jK ar ed lo hi))∧Below w.heap.size w w':=by
 by_cases h1:lo≤ar
 ·by_cases h2:ar≤hi
  ·go_enter Tryz.func154,Tryz.ntmps154;go_wp2_with fail;go_ret;exact⟨by rw[yd h1 h2];rfl,ak _ _⟩
  ·go_enter Tryz.func154,Tryz.ntmps154;go_wp2_with fail;go_ret;exact⟨by rw[qF (by omega)];rfl,ak _ _⟩
 ·go_enter Tryz.func154,Tryz.ntmps154;go_wp2_with fail;go_ret;exact⟨by rw[qF (by omega)];rfl,ak _ _⟩
end
section
structure Cm where
 kind:Int
 A:Int
 B:Int
 C:Int
 D:Int
 S:List D3
 wd:Int
 ht:Int
 px:ByteArray
 lv:Int
 fo:Int
def fr0(wd ht:Int)(px:ByteArray):Bool:=decide (wd=0)&&decide (ht=0)&&decide (px.toList=[])
def hU(c:Cm):Bool:=fr0 c.wd c.ht c.px&&decide (c.lv=0)&&decide (c.fo=0)
def noS(S:List D3):Bool:=decide (S.length=0)
def tz(c:Cm):Bool:=eqT c.A c.B c.C c.D 0 0 0 0
def bu(c:Cm):Bool:=
 if c.kind=1 then tz c&&noS c.S&&hU c
 else if c.kind=2 then aE c.A c.B c.C c.D&&noS c.S&&hU c
 else if c.kind=3 then tz c&&aL c.S&&hU c
 else if c.kind=4 then tz c&&noS c.S&&di c.wd c.ht c.px&&bE 0 255 c.lv&&bE 1 40 c.fo
 else false
theorem BB{c:Cm}(h:c.kind=1):bu c=(tz c&&noS c.S&&hU c):=by unfold bu;rw[if_pos h]
theorem up{c:Cm}(h:c.kind=2):bu c=(aE c.A c.B c.C c.D&&noS c.S&&hU c):=by unfold bu;rw[if_neg (by omega),if_pos h]
theorem uq{c:Cm}(h:c.kind=3):bu c=(tz c&&aL c.S&&hU c):=by unfold bu;rw[if_neg (by omega),if_neg (by omega),if_pos h]
theorem pr{c:Cm}(h:c.kind=4):bu c=(tz c&&noS c.S&&di c.wd c.ht c.px&&bE 0 255 c.lv&&bE 1 40 c.fo):=by unfold bu;rw[if_neg (by omega),if_neg (by omega),if_neg (by omega),if_pos h]
theorem BC{c:Cm}(h1:c.kind≠1)(h2:c.kind≠2)(h3:c.kind≠3)(h4:c.kind≠4):bu c=false:=by unfold bu;rw[if_neg h1,if_neg h2,if_neg h3,if_neg h4]
end
section
open Go.RowKit Go.Sort
def SAt(w:World)(b:Nat)(vs:List Value):Prop:=∀i v,vs[i]? = some v→w.cell? ⟨b,i,none⟩=some v
variable {vs:List Value} {b:Nat} {v x y z:Value} {w:World}
theorem SAt.lt(h:SAt w b (v :: vs)):b<w.heap.size:=World.block_lt_of_cell? w _ (h 0 v rfl)
theorem SAt.kept{w':World}(h:SAt w b (v :: vs))(hB:Below w.heap.size w w'):SAt w' b (v :: vs):=fun i u hu=>by
 rw[hB.cell (p:=⟨b,i,none⟩) h.lt];exact h i u hu
theorem SAt.c3(h:SAt w b [x,y,z]):w.cell? ⟨b,0,none⟩=some x∧w.cell? ⟨b,1,none⟩=some y∧w.cell? ⟨b,2,none⟩=some z:=⟨h 0 x rfl,h 1 y rfl,h 2 z rfl⟩
theorem SAt.c5{u:Value}(h:SAt w b [x,y,z,u,v]):w.cell? ⟨b,0,none⟩=some x∧w.cell? ⟨b,1,none⟩=some y∧w.cell? ⟨b,2,none⟩=some z∧w.cell? ⟨b,3,none⟩=some u∧w.cell? ⟨b,4,none⟩=some v:=⟨h 0 x rfl,h 1 y rfl,h 2 z rfl,h 3 u rfl,h 4 v rfl⟩
end
section
open Go.RowKit
theorem EZ:∃i:TypeInfo,Tryz.prog.info? 5=some i∧i.zero=some (.int .u8 0)∧i.size=1∧i.bytes=1:=by
 refine⟨_,rfl,?_,?_,?_⟩<;>kernel_rfl
theorem wD(n:Nat)(h:n≤281474976710656):∃M:Array Value,M.size=n∧∀W:World,(Instr.makeSlice 176 (.int .i64 (n:Int)) (.int .i64 (n:Int))).run Tryz.prog W=.ok (.slice (some ⟨W.heap.size,0,none⟩) n n) (W.alloc (.cells M 5)):=by
 obtain⟨i0,hi,hz0,hz1,hz2⟩:=EZ;refine⟨madeCells (Value.int .u8 0).cells (((n:Nat):Int).toNat*i0.size),by rw[size_madeCells,hz1];simp,fun W=>?_⟩;have h:=run_make (P:=Tryz.prog) W 176 5 i0 (.int .u8 0) Tryz.underlying176 hi hz0 .i64 .i64 (n:Int) (n:Int) (by omega) (by omega) (by rw[hz2];omega) (by omega);simpa using h
theorem iA(w:World)(M Y:Array Value)(T:TypeId):(w.alloc (.cells M T)).setRow w.heap.size Y=w.alloc (.cells Y T):=by
 unfold World.setRow World.alloc;congr 1
 apply Array.ext
 ·simp
 ·intro i h1 h2;have h3:i<w.heap.size+1:=by simpa using h2
  simp only[Array.getElem_modify,Array.getElem_push];by_cases e:i=w.heap.size
  ·subst e;simp
  ·have h4:i<w.heap.size:=by omega
   simp[Ne.symm e,h4]
theorem lL(w:World)(T:TypeId)(Y:Array Value)(s:ByteArray)(hY:Y.toList=Lib.byteCells s.data.toList)(cap:Nat):
  (convert 176 9 (.slice (some ⟨w.heap.size,0,none⟩) s.size cap)).run Tryz.prog (w.alloc (.cells Y T))=.ok (.string s) (w.alloc (.cells Y T)):=by
 refine Lib.run_convert_whole (P:=Tryz.prog) _ 176 5 9 Tryz.underlying176 Tryz.underlying5 Tryz.underlying9 w.heap.size 0 s ?_ cap;intro i hi
 have hl:Y[i]? = some (.int .u8 (s[i].toNat:Int)):=by
  rw[←Array.getElem?_toList,hY,Lib.byteCells,List.getElem?_map];have:s.data.toList[i]? = some s[i]:=by rw[Array.getElem?_toList];exact Array.getElem?_eq_getElem hi
  rw[this];rfl
 simp[hl]
theorem append_empty(a:ByteArray):a ++ ByteArray.empty=a:=by
 apply ByteArray.ext;simp
theorem mB(a:ByteArray)(w:World)(ha:a.size≤100000):
  Calls Tryz.prog 165 #[.string a] w fun e w'=>e=.returned (.string a)∧Below w.heap.size w w':=by
 obtain⟨M,hM,hmk⟩:=wD a.size (by omega);have hinfo:(Tryz.prog.info? 5).map (·.size)=some 1:=by kernel_rfl
 have hcp:=Lib.run_copy_row_string (P:=Tryz.prog) (w.alloc (.cells M 5)) 176 9 3 5 w.heap.size 0 a.size a.size a M 5 Tryz.underlying176 hinfo (heap_alloc_new w _) (by omega) (by omega);rw[iA]at hcp;obtain⟨Y1,hY1⟩:∃Y,Y=(M.toList.take 0 ++ Lib.byteCells a.data.toList ++ M.toList.drop (0+a.size)).toArray:=⟨_,rfl⟩
 rw[←hY1]at hcp;have hY1l:Y1.toList=Lib.byteCells a.data.toList:=by rw[hY1];simp[←hM]
 have hcv:=lL w 5 Y1 a hY1l a.size;clear hY1 hY1l hinfo hM;go_enter Tryz.func165,Tryz.ntmps165;go_wp2;go_ret;exact⟨rfl,(Below.refl _ _).alloc (Nat.le_refl _) _⟩
end
end Go.Proofs.YteoonaanoenjiaaGreatDoor
