import Derived.Deep.RegionHeld
import Derived.WalkKit
import Derived.Lib.QuietBelow
import Derived.Laws.BitsAllLaws
import Derived.Test.YtnnhjegapofopaaGreatDoorChecked
import Derived.Below
import Derived.Laws.StructEq
import Derived.WalkLawsBesides
import Derived.LaidEql
import Derived.Stop.Asserts
import Derived.RowKitTokens
import Derived.Deep.RegionWith
import Derived.Deep.QuietTactic
import Derived.BigQuiet
import Derived.BigRegion
import Derived.OwnWalk
import Derived.Laws.OwnMore
import Derived.Test.YtnnhjegapofopaaGreatDoorRows
import Derived.WalkSpells
import Derived.Lib.BufferWrite
import Derived.Lib.SlBytesRow
namespace Go.Proofs.YtnnhjegapofopaaGreatDoor
set_option linter.all false
set_option maxRecDepth 100000
set_option maxHeartbeats 8000000
open Go.RowKit Go.Sort Go.Proofs.Tryz
open Go.Value renaming int -> J,agg -> κ,pointer -> π,bool -> β
open Go.Obj renaming cells -> ξ
open Go.Ending renaming returned -> ρ
open Go renaming World -> ω,Value -> μ,Calls -> χ,Addr -> η,cell_regrown -> ϊ,bodyPost_ret -> ϋ,below_regrown -> ό
open Go.RowKit renaming Below -> δ,wrap64 -> ύ,intOf -> ώ
open Option renaming none -> ν,some -> ς
open Bool renaming true -> θ,false -> φ,and_eq_true -> Ϗ
open Go.IntKind renaming i64 -> Z
section
variable {a:Act} {listed:Array Bool} {ops:Array Oper} {fuel:Nat} {P:Program} {w:ω}
theorem ab{Q:Exit->Act->ω->Prop}{d:Region.Mode}{S:ω->Prop}(i:Nat){b:Oper}{v:μ}(k:ops[i]? = ς b)(h:wpAnyH P d ops Q S fuel (listed.setIfInBounds i θ) (a.put b.dst v) w)(m:Region.noSelect ops=θ:=by kernel_rfl)(j:Region.free d ops listed i=θ:=by kernel_rfl)(l:(Region.ready d ops listed).contains i=θ:=by kernel_rfl)(f:∀c a w,Q (.panic c) (a.put b.dst v) w->Q (.panic c) a w:=by exact fun _ _ _ h=>h)(n:Region.wanted b (yielded ops a.tmps)=θ:=by kernel_rfl)(o:∀w,S w->(execOp a.eval b).run P w=.ok (.value v) w:=by (intro p e;(try dsimp only at e);go_simp<;>with_reducible rfl))(g:S w:=by assumption):wpAnyH P d ops Q S (fuel+1) listed a w:=wpAnyH_take k m j l f (Or.inl ⟨n,o⟩) g h
theorem ae{Q:Exit->Act->ω->Prop}{c:Region.Mode}{S:ω->Prop}(i:Nat){o:Oper}(d:ops[i]? = ς o)(h:(∀b:Act->ω->Prop,Shut (∀a w,S w->(S w->wpAnyH P c ops Q S fuel (listed.setIfInBounds i θ) a w)->b a w)->if Region.wanted o (yielded ops a.tmps)=θ then Oper.wp P o a w b Q else b (a.put o.dst undef) w))(e:Region.ready c ops listed=[i]:=by kernel_rfl):wpAnyH P c ops Q S (fuel+1) listed a w:=wpAnyH_ready e (by simp) (AllReadyH.cons d h AllReadyH.nil)
theorem af{Q:Exit->Act->ω->Prop}{c:Region.Mode}{S:ω->Prop}(i j:Nat){o u:Oper}(d:ops[i]? = ς o)(h:(∀b:Act->ω->Prop,Shut (∀a w,S w->(S w->wpAnyH P c ops Q S fuel (listed.setIfInBounds i θ) a w)->b a w)->if Region.wanted o (yielded ops a.tmps)=θ then Oper.wp P o a w b Q else b (a.put o.dst undef) w))(f:ops[j]? = ς u)(g:(∀b:Act->ω->Prop,Shut (∀a w,S w->(S w->wpAnyH P c ops Q S fuel (listed.setIfInBounds j θ) a w)->b a w)->if Region.wanted u (yielded ops a.tmps)=θ then Oper.wp P u a w b Q else b (a.put u.dst undef) w))(e:Region.ready c ops listed=[i,j]:=by kernel_rfl):wpAnyH P c ops Q S (fuel+1) listed a w:=wpAnyH_ready e (by simp) (AllReadyH.cons d h (AllReadyH.cons f g AllReadyH.nil))
theorem ag{α:Type}(i:Nat)(x:α)(l:List α):l.toArray.setIfInBounds i x=(l.set i x).toArray:=List.setIfInBounds_toArray ..
theorem ah{α:Type}(x y:α)(l:List α):(x :: l).set 0 y=y :: l:=rfl
theorem ai{α:Type}(x y:α)(l:List α)(n:Nat):(x :: l).set (n+1) y=x :: l.set n y:=rfl
end
section
theorem sxA{α:Type}(i:Nat)(x:α)(l:List α):l.toArray.setIfInBounds i x=(l.set i x).toArray:=List.setIfInBounds_toArray ..
theorem sxB{α:Type}(x y:α)(l:List α):(x :: l).set 0 y=y :: l:=rfl
theorem sxC{α:Type}(x y:α)(l:List α)(n:Nat):(x :: l).set (n+1) y=x :: l.set n y:=rfl
variable {a:Act} {listed:Array Bool} {ops:Array Oper} {fuel:Nat} {P:Program} {w:ω}
theorem tkO{Q:Exit->Act->ω->Prop}{e:Region.Mode}{S:ω->Prop}(i:Nat){d:Oper}{b:Act}{l:Array Bool}{v:μ}(n:ops.toList[i]? = ς d)(h:wpAnyH P e ops Q S fuel l b w)(q:Region.noSelect ops=θ:=by kernel_rfl)(m:Region.free e ops listed i=θ:=by kernel_rfl)(p:(Region.ready e ops listed).contains i=θ:=by kernel_rfl)(g:∀c a w,Q (.panic c) (a.put d.dst v) w->Q (.panic c) a w:=by exact fun _ _ _ h=>h)(r:Region.wanted d (yielded ops a.tmps)=θ:=by kernel_rfl)(s:∀w,S w->(execOp a.eval d).run P w=.ok (.value v) w:=by (intro t f;(try dsimp only at f);go_simp<;>with_reducible rfl))(j:S w:=by assumption)(k:a.put d.dst v=b:=by first | (simp only[Act.put,sxA,sxB,sxC];rfl) | rfl)(o:listed.setIfInBounds i θ=l:=by first | (simp only[sxA,sxB,sxC];rfl) | rfl):wpAnyH P e ops Q S (fuel+1) listed a w:=by
 subst k o;exact wpAnyH_take (by rw[<-n,Array.getElem?_toList]) q m p g (Or.inl ⟨r,s⟩) j h
theorem tkB{Q:Exit->Act->ω->Prop}{e:Region.Mode}{S:ω->Prop}(i:Nat){d:Oper}{b:Act}{l:Array Bool}(v:μ)(n:ops.toList[i]? = ς d)(h:wpAnyH P e ops Q S fuel l b w)(q:Region.noSelect ops=θ:=by kernel_rfl)(m:Region.free e ops listed i=θ:=by kernel_rfl)(p:(Region.ready e ops listed).contains i=θ:=by kernel_rfl)(g:∀c a w,Q (.panic c) (a.put d.dst v) w->Q (.panic c) a w:=by exact fun _ _ _ h=>h)(r:Region.wanted d (yielded ops a.tmps)=θ:=by kernel_rfl)(s:∀w,S w->(execOp a.eval d).run P w=.ok (.value v) w:=by (intro t f;(try dsimp only at f);go_simp<;>simp))(j:S w:=by assumption)(k:a.put d.dst v=b:=by first | (simp only[Act.put,sxA,sxB,sxC];rfl) | rfl)(o:listed.setIfInBounds i θ=l:=by first | (simp only[sxA,sxB,sxC];rfl) | rfl):wpAnyH P e ops Q S (fuel+1) listed a w:=by
 subst k o;exact wpAnyH_take (by rw[<-n,Array.getElem?_toList]) q m p g (Or.inl ⟨r,s⟩) j h
theorem tkW{Q:Exit->Act->ω->Prop}{e:Region.Mode}{S:ω->Prop}(i:Nat){d:Oper}{b:Act}{l:Array Bool}(v:μ)(m:ops.toList[i]? = ς d)(r:∀w,S w->(execOp a.eval d).run P w=.ok (.value v) w)(h:wpAnyH P e ops Q S fuel l b w)(p:Region.noSelect ops=θ:=by kernel_rfl)(k:Region.free e ops listed i=θ:=by kernel_rfl)(o:(Region.ready e ops listed).contains i=θ:=by kernel_rfl)(f:∀c a w,Q (.panic c) (a.put d.dst v) w->Q (.panic c) a w:=by exact fun _ _ _ h=>h)(q:Region.wanted d (yielded ops a.tmps)=θ:=by kernel_rfl)(g:S w:=by assumption)(j:a.put d.dst v=b:=by first | (simp only[Act.put,sxA,sxB,sxC];rfl) | rfl)(n:listed.setIfInBounds i θ=l:=by first | (simp only[sxA,sxB,sxC];rfl) | rfl):wpAnyH P e ops Q S (fuel+1) listed a w:=by
 subst j n;exact wpAnyH_take (by rw[<-m,Array.getElem?_toList]) p k o f (Or.inl ⟨q,r⟩) g h
theorem tkS{Q:Exit->Act->ω->Prop}{d:Region.Mode}{S:ω->Prop}(i:Nat){e:Oper}{b:Act}{l:Array Bool}(m:ops.toList[i]? = ς e)(h:wpAnyH P d ops Q S fuel l b w)(p:Region.noSelect ops=θ:=by kernel_rfl)(k:Region.free d ops listed i=θ:=by kernel_rfl)(o:(Region.ready d ops listed).contains i=θ:=by kernel_rfl)(f:∀c a w,Q (.panic c) (a.put e.dst undef) w->Q (.panic c) a w:=by exact fun _ _ _ h=>h)(q:Region.wanted e (yielded ops a.tmps)=φ:=by kernel_rfl)(g:S w:=by assumption)(j:a.put e.dst undef=b:=by first | (simp only[Act.put,sxA,sxB,sxC];rfl) | rfl)(n:listed.setIfInBounds i θ=l:=by first | (simp only[sxA,sxB,sxC];rfl) | rfl):wpAnyH P d ops Q S (fuel+1) listed a w:=by
 subst j n;exact wpAnyH_take (by rw[<-m,Array.getElem?_toList]) p k o f (Or.inr ⟨q,rfl⟩) g h
theorem rd1{Q:Exit->Act->ω->Prop}{c:Region.Mode}{S:ω->Prop}(i:Nat){o:Oper}(d:ops.toList[i]? = ς o)(h:(∀b:Act->ω->Prop,Shut (∀a w,S w->(S w->wpAnyH P c ops Q S fuel (listed.setIfInBounds i θ) a w)->b a w)->if Region.wanted o (yielded ops a.tmps)=θ then Oper.wp P o a w b Q else b (a.put o.dst undef) w))(e:Region.ready c ops listed=[i]:=by kernel_rfl):wpAnyH P c ops Q S (fuel+1) listed a w:=wpAnyH_ready e (by simp) (AllReadyH.cons (by rw[<-d,Array.getElem?_toList]) h AllReadyH.nil)
theorem rd2{Q:Exit->Act->ω->Prop}{c:Region.Mode}{S:ω->Prop}(i j:Nat){o u:Oper}(d:ops.toList[i]? = ς o)(h:(∀b:Act->ω->Prop,Shut (∀a w,S w->(S w->wpAnyH P c ops Q S fuel (listed.setIfInBounds i θ) a w)->b a w)->if Region.wanted o (yielded ops a.tmps)=θ then Oper.wp P o a w b Q else b (a.put o.dst undef) w))(f:ops.toList[j]? = ς u)(g:(∀b:Act->ω->Prop,Shut (∀a w,S w->(S w->wpAnyH P c ops Q S fuel (listed.setIfInBounds j θ) a w)->b a w)->if Region.wanted u (yielded ops a.tmps)=θ then Oper.wp P u a w b Q else b (a.put u.dst undef) w))(e:Region.ready c ops listed=[i,j]:=by kernel_rfl):wpAnyH P c ops Q S (fuel+1) listed a w:=wpAnyH_ready e (by simp) (AllReadyH.cons (by rw[<-d,Array.getElem?_toList]) h (AllReadyH.cons (by rw[<-f,Array.getElem?_toList]) g AllReadyH.nil))
theorem rdn{Q:Exit->Act->ω->Prop}{b:Region.Mode}{S:ω->Prop}(h:Q .normal a w)(c:Region.ready b ops listed=[]:=by kernel_rfl):wpAnyH P b ops Q S fuel listed a w:=wpAnyH_done c h _
theorem Kn{Q:Exit->Act->ω->Prop}{g:Nat}{S b:ω->Prop}(d:∀c,b c->S c)(f:b w.drew)(h:S w.drew->wpAnyH P .any ops Q S ops.size (Array.replicate ops.size φ) a w.drew)(e:P.follows .mixedOrders=θ:=by kernel_rfl):(Code.region g ops θ).wp P Q a w:=wp_region_held_drew e (d _ f) h
end
section
variable {a:Act} {P:Program} {w:ω}
theorem de{f:Nat}{Q:Exit->Act->ω->Prop}{l:List Oper}(h:wpQuiet P l.toArray (fun b=>∃p:Regrown,b=grow (redrawn w p.d) p.os) (fun c=>∀b,(∃p:Regrown,b=grow (redrawn w p.d) p.os)->Q .normal c b) l a)(e:P.follows .mixedOrders=θ:=by kernel_rfl)(d:Region.lexB .any l.toArray=θ:=by kernel_rfl):(Code.region f l.toArray θ).wp P Q a w:=wp_region_quiet_below e d h
theorem di{ops:Array Oper}{Q:Act->ω->Prop}(h:∀d o,Q a (grow (redrawn w d) o)):wpQuiet P ops (fun b=>∃p:Regrown,b=grow (redrawn w p.d) p.os) (fun c=>∀b,(∃p:Regrown,b=grow (redrawn w p.d) p.os)->Q c b) [] a:=fun _ ⟨p,e⟩=>e ▸ h p.d p.os
theorem aH{f:FuncId}{args:Array μ}{d:Nat}{a:Array Obj}{v:μ}(h:Hid (∀w,χ P f args w fun e b=>e=ρ v/\δ w.1.size w b)):χ P f args (grow (redrawn w d) a) fun e w''=>e=ρ v/\∃p:Regrown,w''=grow (redrawn w p.d) p.os:=Calls.regrown_of (h _)
end
section
def inB(m x:Int):Bool:=decide (-m<=x/\x<=m)
def aS(m x y z:Int):Bool:=inB m x&&inB m y&&inB m z
def jG(x y z:Int):Bool:=decide (x=0/\y=0/\z=0)
def aD(x y z:Int):Bool:=aS 1000000 x y z && !jG x y z
variable {a a1 a2 a3 b b1 b2 b3 m x z:Int}
theorem jJ:inB m x=θ↔-m<=x/\x<=m:=by simp[inB]
theorem bH{y:Int}:aS m x y z=θ↔(-m<=x/\x<=m)/\(-m<=y/\y<=m)/\(-m<=z/\z<=m):=by
 simp[aS,jJ,and_assoc]
theorem bZ{y:Int}:aD x y z=θ↔((-1000000<=x/\x<=1000000)/\(-1000000<=y/\y<=1000000)/\(-1000000<=z/\z<=1000000))/\¬(x=0/\y=0/\z=0):=by
 unfold aD;rw[Ϗ,bH];simp only[jG,Bool.not_eq_true',decide_eq_false_iff_not]
theorem au{n:Int}(a:-9223372036854775808<=n)(b:n<=9223372036854775807):ύ n=n:=by
 exact Go.IntWalk.wrap64_in n ⟨a,b⟩
theorem dB{A B:Int}(c:-A<=a/\a<=A)(d:-B<=b/\b<=B):-(A*B)<=a*b/\a*b<=A*B:=by
 have h:(a*b).natAbs<=A.natAbs*B.natAbs:=by
  rw[Int.natAbs_mul];exact Nat.mul_le_mul (by omega) (by omega)
 have:((A.natAbs*B.natAbs:Nat):Int)=A*B:=by
  rw[Int.natCast_mul,Int.natAbs_of_nonneg (by omega),Int.natAbs_of_nonneg (by omega)]
 omega
def dx(a1 a2 a3 b1 b2 b3:Int):Int:=ύ (ύ (ύ (a1*b1)+ύ (a2*b2))+ύ (a3*b3))
def dot(a1 a2 a3 b1 b2 b3:Int):Int:=a1*b1+a2*b2+a3*b3
def crW(a2 a3 b2 b3:Int):Int:=ύ (ύ (a2*b3)-ύ (a3*b2))
theorem yh(a b c d e f:Int):dx a b c d e f=dx d e f a b c:=by
 unfold dx;rw[Int.mul_comm a,Int.mul_comm b,Int.mul_comm c]
theorem ew{A B:Int}(a:aS A a1 a2 a3=θ)(b:aS B b1 b2 b3=θ):-(3*(A*B))<=dot a1 a2 a3 b1 b2 b3/\dot a1 a2 a3 b1 b2 b3<=3*(A*B):=by
 rw[bH]at a b;have c:=dB a.1 b.1;have d:=dB a.2.1 b.2.1;have e:=dB a.2.2 b.2.2;unfold dot;omega
theorem eR{A B:Int}(a:aS A a1 a2 a3=θ)(b:aS B b1 b2 b3=θ)(h:3*(A*B)<=9223372036854775807):dx a1 a2 a3 b1 b2 b3=dot a1 a2 a3 b1 b2 b3:=by
 rw[bH]at a b;have c:=dB a.1 b.1;have d:=dB a.2.1 b.2.1;have e:=dB a.2.2 b.2.2;unfold dx dot;rw[au (n:=a1*b1) (by omega) (by omega),au (n:=a2*b2) (by omega) (by omega),au (n:=a3*b3) (by omega) (by omega),au (n:=a1*b1+a2*b2) (by omega) (by omega),au (by omega) (by omega)]
theorem fR{A B:Int}(a:-A<=a2/\a2<=A)(b:-A<=a3/\a3<=A)(c:-B<=b2/\b2<=B)(d:-B<=b3/\b3<=B)(h:2*(A*B)<=9223372036854775807):
  crW a2 a3 b2 b3=a2*b3-a3*b2/\-(2*(A*B))<=a2*b3-a3*b2/\a2*b3-a3*b2<=2*(A*B):=by
 have e:=dB a d;have a:=dB b c;unfold crW;rw[au (n:=a2*b3) (by omega) (by omega),au (n:=a3*b2) (by omega) (by omega),au (by omega) (by omega)];omega
def zH(a1 a2 a3 b1 b2 b3:Int):Int:=if aD a1 a2 a3&&aD b1 b2 b3 then dx a1 a2 a3 b1 b2 b3 else 0
def crI(r:Bool)(a2 a3 b2 b3:Int):Int:=if r then crW a2 a3 b2 b3 else 0
def xo(a1 a2 a3 b1 b2 b3 c1 c2 c3:Int):Int:=
 if aD a1 a2 a3&&aD b1 b2 b3&&aD c1 c2 c3 then dx (crW a2 a3 b2 b3) (crW a3 a1 b3 b1) (crW a1 a2 b1 b2) c1 c2 c3 else 0
def gI(x y z:Int):Int:=((Int.gcd (Int.gcd x y:Int) z:Nat):Int)
def prI(r:Bool)(g x:Int):Int:=if r then ύ (x.tdiv g) else 0
def fk(a1 a2 a3 b1 b2 b3:Int):Bool:=
 aD a1 a2 a3&&aD b1 b2 b3&&jG (crW a2 a3 b2 b3) (crW a3 a1 b3 b1) (crW a1 a2 b1 b2)&&decide (0<dx a1 a2 a3 b1 b2 b3)
theorem BP(a b:Int):Int.gcd b (a.tmod b)=Int.gcd a b:=by
 show Nat.gcd b.natAbs (a.tmod b).natAbs=Nat.gcd a.natAbs b.natAbs;rw[Int.natAbs_tmod,Nat.gcd_comm b.natAbs,<-Nat.gcd_rec,Nat.gcd_comm]
theorem BQ(a:Int):((Int.gcd a 0:Nat):Int)=if a<0 then -a else a:=by
 rw[Int.gcd_zero_right];split<;>omega
theorem AR(a b:Int)(h:b≠0):(a.tmod b).natAbs<b.natAbs:=by
 rw[Int.natAbs_tmod];exact Nat.mod_lt _ (by omega)
theorem pj(c:-m<=a/\a<=m)(d:-m<=b/\b<=m):0<=((Int.gcd a b:Nat):Int)/\((Int.gcd a b:Nat):Int)<=m:=by
 refine⟨by omega,?_⟩;by_cases h:a=0
 ·subst h;rw[Int.gcd_zero_left];omega
 ·have:=Nat.le_of_dvd (by omega) (Nat.gcd_dvd_left a.natAbs b.natAbs);have e:Int.gcd a b=Nat.gcd a.natAbs b.natAbs:=rfl;omega
theorem GS(x y z:Int):((Int.gcd ((Int.gcd ((Int.gcd 0 x:Nat):Int) y:Nat):Int) z:Nat):Int)=gI x y z:=by
 unfold gI
 have:Int.gcd ((Int.gcd 0 x:Nat):Int) y=Int.gcd x y:=by
  rw[Int.gcd_zero_left];show Nat.gcd (x.natAbs:Int).natAbs y.natAbs=Nat.gcd x.natAbs y.natAbs;rw[Int.natAbs_natCast]
 rw[this]
theorem Je{y:Int}(h:aD x y z=θ):0<gI x y z:=by
 rw[bZ]at h;unfold gI
 have b:Int.gcd ((Int.gcd x y:Nat):Int) z≠0:=by
  intro e;rw[Int.gcd_eq_zero_iff]at e;have a:Int.gcd x y=0:=by omega
  rw[Int.gcd_eq_zero_iff]at a;exact h.2 ⟨a.1,a.2,e.2⟩
 omega
theorem wM{y:Int}(h:¬(x=0/\y=0/\z=0)):0<dot x y z x y z:=by
 unfold dot;have d:0<=x*x:=by rw[<-Int.natAbs_mul_self' x];exact Int.natCast_nonneg _
 have f:0<=y*y:=by rw[<-Int.natAbs_mul_self' y];exact Int.natCast_nonneg _
 have g:0<=z*z:=by rw[<-Int.natAbs_mul_self' z];exact Int.natCast_nonneg _
 by_cases a:x=0
 ·by_cases b:y=0
  ·have c:z≠0:=fun e=>h ⟨a,b,e⟩;have:z*z≠0:=fun e=>by rcases Int.mul_eq_zero.1 e with e | e<;>exact c e
   omega
  ·have:y*y≠0:=fun e=>by rcases Int.mul_eq_zero.1 e with e | e<;>exact b e
   omega
 ·have:x*x≠0:=fun e=>by rcases Int.mul_eq_zero.1 e with e | e<;>exact a e
  omega
def sgn(n:Int):Int:=if n<0 then -1 else if 0<n then 1 else 0
def jA(a b:Int):Int:=if a<b then -1 else if b<a then 1 else 0
def ssq(n:Int):Int:=if n<0 then -n*n else n*n
def tP(n:Int):Int:=if n<0 then ύ (ύ (-n)*n) else ύ (n*n)
def dA(x y z:Int):Bool:=aD x y z&&aS 1800 x y z
def aX(x y z:Int):Bool:=aD x y z&&aS 10 x y z
def rA(a1 a2 a3 b1 b2 b3 c1 c2 c3 d1 d2 d3:Int):Int:=
 if dA a1 a2 a3&&dA b1 b2 b3&&aX c1 c2 c3&&aX d1 d2 d3 then
  jA (ssq (dot a1 a2 a3 b1 b2 b3)*(dot c1 c2 c3 c1 c2 c3*dot d1 d2 d3 d1 d2 d3)) (ssq (dot c1 c2 c3 d1 d2 d3)*(dot a1 a2 a3 a1 a2 a3*dot b1 b2 b3 b1 b2 b3))
 else 0
theorem IT{a c d f g h:Int}(i:aS 1800 a1 a2 a3=θ)(j:aS 1800 b1 b2 b3=θ)(k:aS 10 a c d=θ)(l:aS 10 f g h=θ):
  ύ (tP (dx a1 a2 a3 b1 b2 b3)*ύ (dx a c d a c d*dx f g h f g h))=ssq (dot a1 a2 a3 b1 b2 b3)*(dot a c d a c d*dot f g h f g h) /\
  ύ (tP (dx a c d f g h)*ύ (dx a1 a2 a3 a1 a2 a3*dx b1 b2 b3 b1 b2 b3))=ssq (dot a c d f g h)*(dot a1 a2 a3 a1 a2 a3*dot b1 b2 b3 b1 b2 b3):=by
 rw[eR i j (by omega),eR k k (by omega),eR l l (by omega),eR k l (by omega),eR i i (by omega),eR j j (by omega)];have H:=ew i j;have I:=ew k k;have K:=ew l l;have L:=ew k l;have M:=ew i i;have N:=ew j j;generalize dot a1 a2 a3 b1 b2 b3=v at *;generalize dot a c d a c d=w at *;generalize dot f g h f g h=x at *;generalize dot a c d f g h=y at *;generalize dot a1 a2 a3 a1 a2 a3=z at *;generalize dot b1 b2 b3 b1 b2 b3=A at *
 have m:∀(p q r P Q:Int),(-P<=p/\p<=P)->(-Q<=q/\q<=Q)->(-Q<=r/\r<=Q)->P*P<=9223372036854775807->P<=9223372036854775807->Q*Q<=9223372036854775807->(P*P)*(Q*Q)<=9223372036854775807 ->
   ύ (tP p*ύ (q*r))=ssq p*(q*r):=by
  intro p q r P Q o s t B C D E;have F:=dB o o;have u:=dB s t
  have e:tP p=ssq p:=by
   unfold tP ssq;split
   ·rw[au (n:=-p) (by omega) (by omega)];have:-p*p = -(p*p):=by grind
    rw[au (by omega) (by omega)]
   ·rw[au (by omega) (by omega)]
  have b:-(P*P)<=ssq p/\ssq p<=P*P:=by
   unfold ssq;have:-p*p = -(p*p):=by grind
   split<;>omega
  have G:=dB b u;rw[e,au (n:=q*r) (by omega) (by omega),au (by omega) (by omega)]
 exact⟨m v w x 9720000 300 (by omega) (by omega) (by omega) (by omega) (by omega) (by omega) (by omega),m y z A 300 9720000 (by omega) (by omega) (by omega) (by omega) (by omega) (by omega) (by omega)⟩
theorem Ax(h:a<b):jA a b = -1:=by simp[jA,h]
theorem Aw(h:b<a):jA a b=1:=by unfold jA;rw[if_neg (by omega),if_pos h]
theorem oy(h:x<0):ssq x = -(x*x):=by unfold ssq;rw[if_pos h];grind
theorem oz(h:0<=x):ssq x=x*x:=by unfold ssq;rw[if_neg (by omega)]
theorem jM(h:x<0):sgn x = -1:=by simp[sgn,h]
theorem jN(h:0<x):sgn x=1:=by unfold sgn;rw[if_neg (by omega),if_pos h]
theorem qT:sgn 0=0:=by simp[sgn]
def uO(x y p q:Int):Int:=
 if sgn x≠sgn y then sgn (ύ (sgn x-sgn y)) else if p<q then ύ (-sgn x) else if q<p then sgn x else 0
theorem IU{y L M:Int}(g:0<L)(n:0<M):uO x y (x*x*L) (y*y*M)=jA (ssq x*L) (ssq y*M):=by
 have m:∀ {x L:Int},x≠0->0<L->0<x*x*L:=fun {x L} h g=>by
  have q:0<=x*x:=by rw[<-Int.natAbs_mul_self' x];exact Int.natCast_nonneg _
  have:x*x≠0:=fun e=>by rcases Int.mul_eq_zero.1 e with e | e<;>exact h e
  exact Int.mul_pos (by omega) g
 have c:x≠0->0<x*x*L:=fun h=>m h g;have d:y≠0->0<y*y*M:=fun h=>m h n;have i:-(x*x)*L = -(x*x*L):=by grind
 have j:-(y*y)*M = -(y*y*M):=by grind
 have k:ύ (-1) = -1:=au (by omega) (by omega);have o:ύ (-2) = -2:=au (by omega) (by omega);have l:ύ 1=1:=au (by omega) (by omega);have p:ύ 2=2:=au (by omega) (by omega);have f:ssq 0=0:=by simp[ssq]
 unfold uO;rcases Int.lt_trichotomy x 0 with a | a | a<;>rcases Int.lt_trichotomy y 0 with b | b | b
 ·rw[jM a,jM b,oy a,oy b,i,j,if_neg (by simp),show (-(-1):Int)=1 from rfl,l];unfold jA;split
  ·rw[if_neg (by omega),if_pos (by omega)]
  ·split
   ·rw[if_pos (by omega)]
   ·rw[if_neg (by omega),if_neg (by omega)]
 ·subst b;have:=c (by omega);rw[jM a,qT,oy a,f,i,Ax (by omega),if_pos (by simp),show (-1-0:Int) = -1 from rfl,k,jM (by omega)]
 ·have:=c (by omega);have:=d (by omega);rw[jM a,jN b,oy a,oz (by omega),i,Ax (by omega),if_pos (by simp),show (-1-1:Int) = -2 from rfl,o,jM (by omega)]
 ·subst a;have:=d (by omega);rw[jM b,qT,oy b,f,j,Aw (by omega),if_pos (by simp),show (0 - -1:Int)=1 from rfl,l,jN (by omega)]
 ·subst a;subst b
  simp[jA,ssq,sgn]
 ·subst a;have:=d (by omega);rw[jN b,qT,oz (x:=y) (by omega),f,Ax (by omega),if_pos (by simp),show (0-1:Int) = -1 from rfl,k,jM (by omega)]
 ·have:=c (by omega);have:=d (by omega);rw[jN a,jM b,oy b,oz (by omega),j,Aw (by omega),if_pos (by simp),show (1 - -1:Int)=2 from rfl,p,jN (by omega)]
 ·subst b;have:=c (by omega);rw[jN a,qT,oz (x:=x) (by omega),f,Aw (by omega),if_pos (by simp),show (1-0:Int)=1 from rfl,l,jN (by omega)]
 ·rw[jN a,jN b,oz (x:=x) (by omega),oz (x:=y) (by omega),if_neg (by simp),k];rfl
end
section
abbrev St:=Int×Int×Int×Int
def stC(s:St):List μ:=[J Z s.1,J Z s.2.1,J Z s.2.2.1,J Z s.2.2.2]
def stA(L:List St)(i:Nat):St:=L.getD i (0,0,0,0)
def idB(n:Int):Bool:=decide (1<=n)&&decide (n<=9999)
def upB(L:List St)(i:Nat):Bool:=decide (i=0) || decide ((stA L (i-1)).1<(stA L i).1)
def eqI(a1 a2 a3 b1 b2 b3:Int):Bool:=decide (a1=b1/\a2=b2/\a3=b3)
def gN(x y z:Int):Bool:=eqI x y z (prI (aD x y z) (gI x y z) x) (prI (aD x y z) (gI x y z) y) (prI (aD x y z) (gI x y z) z)
def sY(p q:St):Bool:=fk p.2.1 p.2.2.1 p.2.2.2 q.2.1 q.2.2.1 q.2.2.2
def rH(L:List St)(s:St)(k:Nat):Prop:=∀j,j<k->sY s (stA L j)=φ
def gy(L:List St)(s:St)(n:Nat):Bool:=(List.range n).any fun j=>sY s (stA L j)
def gB(L:List St)(i:Nat):Bool:=
 idB (stA L i).1&&upB L i&&(aX (stA L i).2.1 (stA L i).2.2.1 (stA L i).2.2.2&&gN (stA L i).2.1 (stA L i).2.2.1 (stA L i).2.2.2) && !gy L (stA L i) i
def CD(L:List St)(k:Nat):Prop:=∀j,j<k->gB L j=θ
def bE(L:List St):Bool:=decide (L.length<=12)&&(List.range L.length).all (gB L)
theorem wR{L:List St}{s:St}{n:Nat}(h:rH L s n):gy L s n=φ:=by
 unfold gy;rw[List.any_eq_false];intro j a;rw[h j (List.mem_range.1 a)];simp
theorem zg{L:List St}{s:St}{n j:Nat}(a:j<n)(h:sY s (stA L j)=θ):gy L s n=θ:=by
 unfold gy;rw[List.any_eq_true];exact⟨j,List.mem_range.2 a,h⟩
variable {a1 a2 a3 b1 b2 b3:Int} {k:Nat}
theorem yp{L:List St}{s:St}(h:rH L s k)(a:sY s (stA L k)=φ):rH L s (k+1):=by
 intro j b;by_cases e:j=k
 ·rw[e];exact a
 ·exact h j (by omega)
theorem Av{L:List St}(h:CD L k)(a:gB L k=θ):CD L (k+1):=by
 intro j b;by_cases e:j=k
 ·rw[e];exact a
 ·exact h j (by omega)
theorem AH{L:List St}(b:L.length<=12)(h:CD L L.length):bE L=θ:=by
 unfold bE;rw[Ϗ,List.all_eq_true];exact⟨by simpa using b,fun j a=>h j (List.mem_range.1 a)⟩
theorem lp{L:List St}(a:k<L.length)(h:gB L k=φ):bE L=φ:=by
 unfold bE
 have:(List.range L.length).all (gB L)=φ:=by
  rw[List.all_eq_false];exact⟨k,List.mem_range.2 a,by rw[h];simp⟩
 rw[this,Bool.and_false]
theorem Kw{L:List St}(a:12<L.length):bE L=φ:=by
 unfold bE;rw[show decide (L.length<=12)=φ by simp;omega,Bool.false_and]
theorem ff{L:List St}(h:bE L=θ):L.length<=12/\CD L L.length:=by
 unfold bE at h;rw[Ϗ,List.all_eq_true]at h;exact⟨by simpa using h.1,fun j a=>h.2 j (List.mem_range.2 a)⟩
theorem kw{L:List St}{i:Nat}(h:gB L i=θ):aX (stA L i).2.1 (stA L i).2.2.1 (stA L i).2.2.2=θ:=by
 unfold gB at h;simp only[Ϗ]at h;exact h.1.2.1
theorem eA{x y z:Int}(h:aX x y z=θ):aD x y z=θ/\aS 10 x y z=θ:=by simpa[aX] using h
theorem EJ(m:aX a1 a2 a3=θ)(n:aX b1 b2 b3=θ):fk a1 a2 a3 b1 b2 b3=fk b1 b2 b3 a1 a2 a3:=by
 obtain⟨o,q⟩:=eA m;obtain⟨p,r⟩:=eA n;obtain⟨a,b,c⟩:=bH.1 q;obtain⟨d,e,f⟩:=bH.1 r;have g:=fR b c e f (by omega);have h:=fR c a f d (by omega);have i:=fR a b d e (by omega);have j:=fR e f b c (by omega);have k:=fR f d c a (by omega);have l:=fR d e a b (by omega);unfold fk;rw[o,p,g.1,h.1,i.1,j.1,k.1,l.1,yh];congr 2
 unfold jG;rw[Int.mul_comm b2,Int.mul_comm b3 a2,Int.mul_comm b3 a1,Int.mul_comm b1 a3,Int.mul_comm b1 a2,Int.mul_comm b2 a1];congr 1
 apply propext;constructor<;>rintro ⟨s,t,u⟩<;>exact⟨by omega,by omega,by omega⟩
theorem LP(a:aX a1 a2 a3=θ)(b:aX b1 b2 b3=θ):
  (eqI (crW a2 a3 b2 b3) (crW a3 a1 b3 b1) (crW a1 a2 b1 b2) 0 0 0&&decide (0<dx a1 a2 a3 b1 b2 b3))=fk a1 a2 a3 b1 b2 b3:=by
 unfold fk;rw[(eA a).1,(eA b).1];rfl
end
section
def inT(m a b c d:Int):Bool:=inB m a&&inB m b&&inB m c&&inB m d
def kG(a b c d:Int):Bool:=decide (a=0/\b=0/\c=0/\d=0)
def fT(a b c d:Int):Int:=if a≠0 then a else if b≠0 then b else if c≠0 then c else d
def gT(a b c d:Int):Int:=((Int.gcd ((Int.gcd a b:Nat):Int) ((Int.gcd c d:Nat):Int):Nat):Int)
def sT(a b c d:Int):Int:=if fT a b c d<0 then -gT a b c d else gT a b c d
def aG(a b c d:Int):Bool:=inT 5 a b c d&&decide (0<fT a b c d)&&decide (gT a b c d=1)
def eqT(a b c d a' b' c' d':Int):Bool:=decide (a=a'/\b=b'/\c=c'/\d=d')
variable {a b c d m s x:Int}
theorem ej:inT m a b c d=θ↔(-m<=a/\a<=m)/\(-m<=b/\b<=m)/\(-m<=c/\c<=m)/\(-m<=d/\d<=m):=by
 simp[inT,jJ,and_assoc]
theorem BY{n:Int}(h:inT m a b c d=θ)(e:m<=n):inT n a b c d=θ:=by
 rw[ej]at h ⊢;omega
theorem tX:fT a b c d=0↔(a=0/\b=0/\c=0/\d=0):=by
 unfold fT;split
 ·omega
 ·split
  ·omega
  ·split<;>omega
theorem MI(a b c d:Int):fT a b c d=a\/fT a b c d=b\/fT a b c d=c\/fT a b c d=d:=by
 unfold fT;split
 ·exact .inl rfl
 ·split
  ·exact .inr (.inl rfl)
  ·split
   ·exact .inr (.inr (.inl rfl))
   ·exact .inr (.inr (.inr rfl))
theorem GQ(a b c d:Int):0<=gT a b c d:=Int.natCast_nonneg _
theorem ML(h:¬(a=0/\b=0/\c=0/\d=0)):0<gT a b c d:=by
 unfold gT
 have i:Int.gcd ((Int.gcd a b:Nat):Int) ((Int.gcd c d:Nat):Int)≠0:=by
  intro e;rw[Int.gcd_eq_zero_iff]at e;have f:Int.gcd a b=0:=by omega
  have g:Int.gcd c d=0:=by omega
  rw[Int.gcd_eq_zero_iff]at f g;exact h ⟨f.1,f.2,g.1,g.2⟩
 omega
theorem vo(a b c d:Int):((Int.gcd ((Int.gcd ((Int.gcd ((Int.gcd 0 a:Nat):Int) b:Nat):Int) c:Nat):Int) d:Nat):Int)=gT a b c d:=by
 unfold gT
 have e:Int.gcd ((Int.gcd 0 a:Nat):Int) b=Int.gcd a b:=by
  rw[Int.gcd_zero_left];show Nat.gcd (a.natAbs:Int).natAbs b.natAbs=Nat.gcd a.natAbs b.natAbs;rw[Int.natAbs_natCast]
 rw[e];show ((Nat.gcd (Nat.gcd (Int.gcd a b) c.natAbs) d.natAbs:Nat):Int)=((Nat.gcd (Int.gcd a b) (Nat.gcd c.natAbs d.natAbs):Nat):Int);rw[Nat.gcd_assoc]
theorem Mw(h:¬(a=0/\b=0/\c=0/\d=0)):sT a b c d≠0:=by
 have:=ML h;unfold sT;split<;>omega
theorem jQ{f:Int}(d:f≠0)(h:f.tdiv s=f):s=1:=by
 have a:f.natAbs / s.natAbs=f.natAbs:=by
  have e:(f.tdiv s).natAbs=f.natAbs / s.natAbs:=Int.natAbs_tdiv f s;rw[<-e,h]
 have b:s.natAbs≠0:=by
  intro e;rw[e,Nat.div_zero]at a;omega
 have c:s.natAbs<2:=by
  rcases Nat.lt_or_ge s.natAbs 2 with h | h
  ·exact h
  ·have:=Nat.div_lt_self (n:=f.natAbs) (k:=s.natAbs) (by omega) h;omega
 rcases(show s=1\/s = -1 by omega) with e | e
 ·exact e
 ·rw[e,Int.tdiv_neg,Int.tdiv_one]at h;omega
theorem Gl(a:-m<=x/\x<=m):-m<=x.tdiv s/\x.tdiv s<=m:=by
 have h:(x.tdiv s).natAbs<=x.natAbs:=by rw[Int.natAbs_tdiv];exact Nat.div_le_self _ _
 omega
theorem xH(l:¬(a=0/\b=0/\c=0/\d=0)):
  eqT a b c d (a.tdiv (sT a b c d)) (b.tdiv (sT a b c d)) (c.tdiv (sT a b c d)) (d.tdiv (sT a b c d))=(decide (0<fT a b c d)&&decide (gT a b c d=1)):=by
 have f:fT a b c d≠0:=fun e=>l (tX.1 e);rw[Bool.eq_iff_iff,Ϗ,decide_eq_true_iff,decide_eq_true_iff];unfold eqT;rw[decide_eq_true_iff];constructor
 ·rintro ⟨i,h,j,k⟩
  have g:sT a b c d=1:=by
   rcases MI a b c d with e | e | e | e
   ·exact jQ (e ▸ f) i.symm
   ·exact jQ (e ▸ f) h.symm
   ·exact jQ (e ▸ f) j.symm
   ·exact jQ (e ▸ f) k.symm
  have m:=GQ a b c d;unfold sT at g;split at g<;>omega
 ·rintro ⟨i,h⟩;have g:sT a b c d=1:=by unfold sT;rw[if_neg (by omega),h]
  rw[g];simp[Int.tdiv_one]
theorem dt:aG a b c d=θ↔inT 5 a b c d=θ/\0<fT a b c d/\gT a b c d=1:=by
 simp[aG,and_assoc]
theorem rZ(h:aG a b c d=θ):¬(a=0/\b=0/\c=0/\d=0):=by
 have:=(dt.1 h).2.1;intro e;rw[tX.2 e]at this;omega
def ofC(a b c d:Int):Int:=
 if inT 1000 a b c d && !kG a b c d then
  if aG (a.tdiv (sT a b c d)) (b.tdiv (sT a b c d)) (c.tdiv (sT a b c d)) (d.tdiv (sT a b c d)) then 0 else 9
 else 1
def ofP(a b c d x:Int):Int:=if ofC a b c d=0 then x.tdiv (sT a b c d) else 0
theorem JS(h:(inT 1000 a b c d && !kG a b c d)=φ):ofC a b c d=1:=by unfold ofC;rw[h];rfl
theorem lW:kG a b c d=θ↔(a=0/\b=0/\c=0/\d=0):=by simp[kG]
theorem Hr(h:ofC a b c d=0):inT 1000 a b c d=θ/\¬(a=0/\b=0/\c=0/\d=0)/\aG (a.tdiv (sT a b c d)) (b.tdiv (sT a b c d)) (c.tdiv (sT a b c d)) (d.tdiv (sT a b c d))=θ:=by
 unfold ofC at h;split at h
 ·next h1=>
  rw[Ϗ,Bool.not_eq_true']at h1;split at h
  ·next h2=>exact⟨h1.1,fun e=>by rw[lW.2 e]at h1;exact absurd h1.2 (by decide),h2⟩
  ·exact absurd h (by decide)
 ·exact absurd h (by decide)
def nT(a b c d:Int):Int:=a*a+b*b+c*c+d*d
theorem sqn(x:Int):0<=x*x:=by rw[<-Int.natAbs_mul_self' x];exact Int.natCast_nonneg _
theorem sqp(h:x≠0):0<x*x:=by
 have:=sqn x;have:x*x≠0:=fun e=>by rcases Int.mul_eq_zero.1 e with e | e<;>exact h e
 omega
theorem JF(h:¬(a=0/\b=0/\c=0/\d=0)):0<nT a b c d:=by
 have j:=sqn a;have k:=sqn b;have l:=sqn c;have m:=sqn d;unfold nT;by_cases f:a=0
 ·by_cases g:b=0
  ·by_cases i:c=0
   ·have:=sqp (x:=d) (fun e=>h ⟨f,g,i,e⟩);omega
   ·have:=sqp i;omega
  ·have:=sqp g;omega
 ·have:=sqp f;omega
theorem NK(h:inT 5 a b c d=θ):nT a b c d<=100:=by
 rw[ej]at h;have e:=dB h.1 h.1;have f:=dB h.2.1 h.2.1;have g:=dB h.2.2.1 h.2.2.1;have i:=dB h.2.2.2 h.2.2.2;unfold nT;omega
def apX(a b c d x y z:Int):Int:=(a*a+b*b-c*c-d*d)*x+2*(b*c-a*d)*y+2*(b*d+a*c)*z
def apY(a b c d x y z:Int):Int:=2*(b*c+a*d)*x+(a*a-b*b+c*c-d*d)*y+2*(c*d-a*b)*z
def apZ(a b c d x y z:Int):Int:=2*(b*d-a*c)*x+2*(c*d+a*b)*y+(a*a-b*b-c*c+d*d)*z
theorem zv(a b c d x y z e f g:Int):
  dot (apX a b c d x y z) (apY a b c d x y z) (apZ a b c d x y z) (apX a b c d e f g) (apY a b c d e f g) (apZ a b c d e f g)=nT a b c d*nT a b c d*dot x y z e f g:=by
 unfold dot apX apY apZ nT;grind
def coA(s1 s2 s3 s4 t1 t2 t3 t4:Int):Int:=s1*t1-s2*t2-s3*t3-s4*t4
def coB(s1 s2 s3 s4 t1 t2 t3 t4:Int):Int:=s1*t2+s2*t1+s3*t4-s4*t3
def coC(s1 s2 s3 s4 t1 t2 t3 t4:Int):Int:=s1*t3-s2*t4+s3*t1+s4*t2
def coD(s1 s2 s3 s4 t1 t2 t3 t4:Int):Int:=s1*t4+s2*t3-s3*t2+s4*t1
end
section
variable {a b c d s1 s2 s3 s4 t1 t2 t3 t4 x z:Int}
theorem Mg{y:Int}(i:inT 5 a b c d=θ)(j:aS 1800 x y z=θ):
  ύ (ύ (ύ (ύ (ύ (ύ (ύ (a*a)+ύ (b*b))-ύ (c*c))-ύ (d*d))*x)+ύ (ύ (2*ύ (ύ (b*c)-ύ (a*d)))*y))+ύ (ύ (2*ύ (ύ (b*d)+ύ (a*c)))*z))=apX a b c d x y z:=by
 obtain⟨e,f,g,h⟩:=ej.1 i;have k:=dB e e;have l:=dB f f;have m:=dB g g;have o:=dB h h;have p:=dB f g;have q:=dB e h;have r:=dB f h;have s:=dB e g
 rw[au (n:=a*a) (by omega) (by omega),au (n:=b*b) (by omega) (by omega),au (n:=c*c) (by omega) (by omega),au (n:=d*d) (by omega) (by omega),au (n:=b*c) (by omega) (by omega),au (n:=a*d) (by omega) (by omega),au (n:=b*d) (by omega) (by omega),au (n:=a*c) (by omega) (by omega),
  au (n:=a*a+b*b) (by omega) (by omega),au (n:=a*a+b*b-c*c) (by omega) (by omega),au (n:=a*a+b*b-c*c-d*d) (by omega) (by omega),au (n:=b*c-a*d) (by omega) (by omega),au (n:=b*d+a*c) (by omega) (by omega),au (n:=2*(b*c-a*d)) (by omega) (by omega),au (n:=2*(b*d+a*c)) (by omega) (by omega)]
 exact eR (A:=100) (B:=1800) (bH.2 ⟨by omega,by omega,by omega⟩) j (by omega)
theorem Mh{y:Int}(i:inT 5 a b c d=θ)(j:aS 1800 x y z=θ):
  ύ (ύ (ύ (ύ (2*ύ (ύ (b*c)+ύ (a*d)))*x)+ύ (ύ (ύ (ύ (ύ (a*a)-ύ (b*b))+ύ (c*c))-ύ (d*d))*y))+ύ (ύ (2*ύ (ύ (c*d)-ύ (a*b)))*z))=apY a b c d x y z:=by
 obtain⟨e,f,g,h⟩:=ej.1 i;have k:=dB e e;have l:=dB f f;have m:=dB g g;have o:=dB h h;have p:=dB f g;have q:=dB e h;have r:=dB g h;have s:=dB e f
 rw[au (n:=a*a) (by omega) (by omega),au (n:=b*b) (by omega) (by omega),au (n:=c*c) (by omega) (by omega),au (n:=d*d) (by omega) (by omega),au (n:=b*c) (by omega) (by omega),au (n:=a*d) (by omega) (by omega),au (n:=c*d) (by omega) (by omega),au (n:=a*b) (by omega) (by omega),
  au (n:=a*a-b*b) (by omega) (by omega),au (n:=a*a-b*b+c*c) (by omega) (by omega),au (n:=a*a-b*b+c*c-d*d) (by omega) (by omega),au (n:=b*c+a*d) (by omega) (by omega),au (n:=c*d-a*b) (by omega) (by omega),au (n:=2*(b*c+a*d)) (by omega) (by omega),au (n:=2*(c*d-a*b)) (by omega) (by omega)]
 exact eR (A:=100) (B:=1800) (bH.2 ⟨by omega,by omega,by omega⟩) j (by omega)
theorem Mi{y:Int}(i:inT 5 a b c d=θ)(j:aS 1800 x y z=θ):
  ύ (ύ (ύ (ύ (2*ύ (ύ (b*d)-ύ (a*c)))*x)+ύ (ύ (2*ύ (ύ (c*d)+ύ (a*b)))*y))+ύ (ύ (ύ (ύ (ύ (a*a)-ύ (b*b))-ύ (c*c))+ύ (d*d))*z))=apZ a b c d x y z:=by
 obtain⟨e,f,g,h⟩:=ej.1 i;have k:=dB e e;have l:=dB f f;have m:=dB g g;have o:=dB h h;have p:=dB f h;have q:=dB e g;have r:=dB g h;have s:=dB e f
 rw[au (n:=a*a) (by omega) (by omega),au (n:=b*b) (by omega) (by omega),au (n:=c*c) (by omega) (by omega),au (n:=d*d) (by omega) (by omega),au (n:=b*d) (by omega) (by omega),au (n:=a*c) (by omega) (by omega),au (n:=c*d) (by omega) (by omega),au (n:=a*b) (by omega) (by omega),
  au (n:=a*a-b*b) (by omega) (by omega),au (n:=a*a-b*b-c*c) (by omega) (by omega),au (n:=a*a-b*b-c*c+d*d) (by omega) (by omega),au (n:=b*d-a*c) (by omega) (by omega),au (n:=c*d+a*b) (by omega) (by omega),au (n:=2*(b*d-a*c)) (by omega) (by omega),au (n:=2*(c*d+a*b)) (by omega) (by omega)]
 exact eR (A:=100) (B:=1800) (bH.2 ⟨by omega,by omega,by omega⟩) j (by omega)
theorem Mj(e:inT 5 s1 s2 s3 s4=θ)(f:inT 5 t1 t2 t3 t4=θ):
  ύ (ύ (ύ (ύ (s1*t1)-ύ (s2*t2))-ύ (s3*t3))-ύ (s4*t4))=coA s1 s2 s3 s4 t1 t2 t3 t4/\-100<=coA s1 s2 s3 s4 t1 t2 t3 t4/\coA s1 s2 s3 s4 t1 t2 t3 t4<=100:=by
 obtain⟨a,b,c,d⟩:=ej.1 e;obtain⟨g,h,i,j⟩:=ej.1 f;have k:=dB a g;have l:=dB b h;have m:=dB c i;have o:=dB d j;unfold coA;rw[au (n:=s1*t1) (by omega) (by omega),au (n:=s2*t2) (by omega) (by omega),au (n:=s3*t3) (by omega) (by omega),au (n:=s4*t4) (by omega) (by omega),au (n:=s1*t1-s2*t2) (by omega) (by omega),au (n:=s1*t1-s2*t2-s3*t3) (by omega) (by omega),au (by omega) (by omega)];omega
theorem Mk(e:inT 5 s1 s2 s3 s4=θ)(f:inT 5 t1 t2 t3 t4=θ):
  ύ (ύ (ύ (ύ (s1*t2)+ύ (s2*t1))+ύ (s3*t4))-ύ (s4*t3))=coB s1 s2 s3 s4 t1 t2 t3 t4/\-100<=coB s1 s2 s3 s4 t1 t2 t3 t4/\coB s1 s2 s3 s4 t1 t2 t3 t4<=100:=by
 obtain⟨a,b,c,d⟩:=ej.1 e;obtain⟨g,h,i,j⟩:=ej.1 f;have k:=dB a h;have l:=dB b g;have m:=dB c j;have o:=dB d i;unfold coB;rw[au (n:=s1*t2) (by omega) (by omega),au (n:=s2*t1) (by omega) (by omega),au (n:=s3*t4) (by omega) (by omega),au (n:=s4*t3) (by omega) (by omega),au (n:=s1*t2+s2*t1) (by omega) (by omega),au (n:=s1*t2+s2*t1+s3*t4) (by omega) (by omega),au (by omega) (by omega)];omega
theorem Ml(e:inT 5 s1 s2 s3 s4=θ)(f:inT 5 t1 t2 t3 t4=θ):
  ύ (ύ (ύ (ύ (s1*t3)-ύ (s2*t4))+ύ (s3*t1))+ύ (s4*t2))=coC s1 s2 s3 s4 t1 t2 t3 t4/\-100<=coC s1 s2 s3 s4 t1 t2 t3 t4/\coC s1 s2 s3 s4 t1 t2 t3 t4<=100:=by
 obtain⟨a,b,c,d⟩:=ej.1 e;obtain⟨g,h,i,j⟩:=ej.1 f;have k:=dB a i;have l:=dB b j;have m:=dB c g;have o:=dB d h;unfold coC;rw[au (n:=s1*t3) (by omega) (by omega),au (n:=s2*t4) (by omega) (by omega),au (n:=s3*t1) (by omega) (by omega),au (n:=s4*t2) (by omega) (by omega),au (n:=s1*t3-s2*t4) (by omega) (by omega),au (n:=s1*t3-s2*t4+s3*t1) (by omega) (by omega),au (by omega) (by omega)];omega
theorem Mm(e:inT 5 s1 s2 s3 s4=θ)(f:inT 5 t1 t2 t3 t4=θ):
  ύ (ύ (ύ (ύ (s1*t4)+ύ (s2*t3))-ύ (s3*t2))+ύ (s4*t1))=coD s1 s2 s3 s4 t1 t2 t3 t4/\-100<=coD s1 s2 s3 s4 t1 t2 t3 t4/\coD s1 s2 s3 s4 t1 t2 t3 t4<=100:=by
 obtain⟨a,b,c,d⟩:=ej.1 e;obtain⟨g,h,i,j⟩:=ej.1 f;have k:=dB a j;have l:=dB b i;have m:=dB c h;have o:=dB d g;unfold coD;rw[au (n:=s1*t4) (by omega) (by omega),au (n:=s2*t3) (by omega) (by omega),au (n:=s3*t2) (by omega) (by omega),au (n:=s4*t1) (by omega) (by omega),au (n:=s1*t4+s2*t3) (by omega) (by omega),au (n:=s1*t4+s2*t3-s3*t2) (by omega) (by omega),au (by omega) (by omega)];omega
def apR(a b c d x y z:Int):Bool:=aG a b c d&&dA x y z
def apI(r:Bool)(v:Int):Int:=if r then v else 0
def coR(s1 s2 s3 s4 t1 t2 t3 t4:Int):Bool:=aG s1 s2 s3 s4&&aG t1 t2 t3 t4
def coK(s1 s2 s3 s4 t1 t2 t3 t4:Int):Int:=
 if coR s1 s2 s3 s4 t1 t2 t3 t4 then ofC (coA s1 s2 s3 s4 t1 t2 t3 t4) (coB s1 s2 s3 s4 t1 t2 t3 t4) (coC s1 s2 s3 s4 t1 t2 t3 t4) (coD s1 s2 s3 s4 t1 t2 t3 t4) else 1
def coP(s1 s2 s3 s4 t1 t2 t3 t4 v:Int):Int:=
 if coR s1 s2 s3 s4 t1 t2 t3 t4 then ofP (coA s1 s2 s3 s4 t1 t2 t3 t4) (coB s1 s2 s3 s4 t1 t2 t3 t4) (coC s1 s2 s3 s4 t1 t2 t3 t4) (coD s1 s2 s3 s4 t1 t2 t3 t4) v else 0
theorem IE{m:Int}(d:0<=m)(h:x*x<=m*m):-m<=x/\x<=m:=by
 have a:x.natAbs*x.natAbs<=m.natAbs*m.natAbs:=by
  have b:=Int.natAbs_mul_self' x;have c:=Int.natAbs_mul_self' m;omega
 have:=Nat.mul_self_le_mul_self_iff.1 a;omega
theorem IF{y D M:Int}(f:aG a b c d=θ)(n:dot x y z x y z<=D)(e:0<=M)(h:10000*D<=M*M):aS M (apX a b c d x y z) (apY a b c d x y z) (apZ a b c d x y z)=θ:=by
 have q:=NK (dt.1 f).1;have r:=JF (rZ f);have i:=dB (A:=100) (B:=100) (a:=nT a b c d) (b:=nT a b c d) (by omega) (by omega);have o:=zv a b c d x y z x y z;have j:0<=dot x y z x y z:=by have k:=sqn x;have l:=sqn y;have m:=sqn z;unfold dot;omega
 have p:=dB (A:=10000) (B:=D) (a:=nT a b c d*nT a b c d) (b:=dot x y z x y z) (by omega) (by omega);have s:=sqn (apX a b c d x y z);have t:=sqn (apY a b c d x y z);have u:=sqn (apZ a b c d x y z);have g:dot (apX a b c d x y z) (apY a b c d x y z) (apZ a b c d x y z) (apX a b c d x y z) (apY a b c d x y z) (apZ a b c d x y z)=apX a b c d x y z*apX a b c d x y z+apY a b c d x y z*apY a b c d x y z+apZ a b c d x y z*apZ a b c d x y z:=rfl;rw[bH];exact⟨IE e (by omega),IE e (by omega),IE e (by omega)⟩
end
section
structure Tk where
 L:List St
 lim:Int
 mode:Int
 A:Int
 B:Int
 C:Int
 D:Int
 coast:Int
 fr:Int
def bG(lo hi x:Int):Bool:=decide (lo<=x)&&decide (x<=hi)
def lH(t:Tk):Bool:=
 if t.mode=0 then eqT t.A t.B t.C t.D 0 0 0 0&&decide (t.coast=0)
 else if t.mode=1 then aG t.A t.B t.C t.D&&decide (t.coast=0)
 else if t.mode=2 then aG t.A t.B t.C t.D&&bG 1 t.lim t.coast
 else φ
def oZ(t:Tk):Bool:=bE t.L&&bG 1 5 t.lim&&bG 0 1000000 t.fr
def aM(t:Tk):Bool:=oZ t&&lH t
variable {hi x:Int}
theorem qV{a:Int}(b:a<=x)(c:x<=hi):bG a hi x=θ:=by unfold bG;rw[decide_eq_true b,decide_eq_true c];rfl
theorem nN{a:Int}(h:¬a<=x):bG a hi x=φ:=by unfold bG;rw[decide_eq_false h];rfl
theorem yY{a:Int}(h:¬x<=hi):bG a hi x=φ:=by unfold bG;rw[decide_eq_false h];simp
theorem iU{a:Int}:bG a hi x=θ↔a<=x/\x<=hi:=by unfold bG;simp
theorem zh{t:Tk}(h:bE t.L=φ):aM t=φ:=by unfold aM oZ;rw[h];rfl
theorem sz{t:Tk}(h:bG 1 5 t.lim=φ):aM t=φ:=by unfold aM oZ;rw[h];simp
theorem oE{t:Tk}(h:bG 0 1000000 t.fr=φ):aM t=φ:=by unfold aM oZ;rw[h];simp
theorem wV{t:Tk}(a:bE t.L=θ)(b:bG 1 5 t.lim=θ)(c:bG 0 1000000 t.fr=θ):aM t=lH t:=by unfold aM oZ;rw[a,b,c];rfl
theorem JE{t:Tk}(h:t.mode=0):lH t=(eqT t.A t.B t.C t.D 0 0 0 0&&decide (t.coast=0)):=by unfold lH;rw[if_pos h]
theorem nH{t:Tk}(h:t.mode=1):lH t=(aG t.A t.B t.C t.D&&decide (t.coast=0)):=by unfold lH;rw[if_neg (by omega),if_pos h]
theorem pt{t:Tk}(h:t.mode=2):lH t=(aG t.A t.B t.C t.D&&bG 1 t.lim t.coast):=by unfold lH;rw[if_neg (by omega),if_neg (by omega),if_pos h]
theorem vQ{t:Tk}(a:t.mode≠0)(b:t.mode≠1)(c:t.mode≠2):lH t=φ:=by unfold lH;rw[if_neg a,if_neg b,if_neg c]
theorem KV{t:Tk}(h:aM t=θ):0<=t.fr/\t.fr<=1000000:=by
 cases a:bG 0 1000000 t.fr
 ·rw[oE a]at h;cases h
 ·exact iU.1 a
theorem pN{t:Tk}(h:aM t=θ):lH t=θ:=by unfold aM at h;rw[Ϗ]at h;exact h.2
theorem pQ{t:Tk}(h:aM t=θ)(d:t.mode≠0):aG t.A t.B t.C t.D=θ:=by
 have a:=pN h;by_cases b:t.mode=1
 ·rw[nH b,Ϗ]at a;exact a.1
 ·by_cases c:t.mode=2
  ·rw[pt c,Ϗ]at a;exact a.1
  ·rw[vQ d b c]at a;cases a
def FL(t:Tk):Tk:={ t with mode:=0,A:=0,B:=0,C:=0,D:=0,coast:=0 }
def dW:Tk:=⟨[],0,0,0,0,0,0,0,0⟩
end
section
variable {b r:Nat} {k p q:Prop}
theorem yz(h:p):Hid p:=h
theorem yx(h:Hid p):p:=h
theorem ap(h:Hid p)(x:k)(f:p->k->q:=by exact fun h x=>h.kept x):Hid q:=yz (f (yx h) x)
theorem aW{l:Prop}(h:Hid p)(x:k)(y:l)(f:p->k->l->q:=by exact fun h x y=>(h.kept x).kept y):Hid q:=yz (f (yx h) x y)
def step(r:Nat):Nat:=if r % 2=1 then (r / 2) ^^^ 3988292384 else r / 2
def iW:Nat->Nat->Nat
 | 0,r=>r
 | k+1,r=>step (iW k r)
def fX:Nat->Nat->Nat->Nat
 | 0,r,_=>r
 | k+1,r,b=>if (fX k r b ^^^ (b / 2 ^ k)) % 2=1 then (fX k r b / 2) ^^^ 3988292384 else fX k r b / 2
def oa(r b:Nat):Nat:=iW 8 (r ^^^ b)
theorem Lh(a b:Nat):(a ^^^ b) / 2=(a / 2) ^^^ (b / 2):=by
 apply Nat.eq_of_testBit_eq;intro i
 simp[Nat.testBit_xor,<-Nat.testBit_succ]
theorem Dl(k r b:Nat):iW k (r ^^^ b)=fX k r b ^^^ (b / 2 ^ k):=by
 induction k with
 | zero=>simp[iW,fX]
 | succ k ih=>
  have e:b / 2 ^ (k+1)=b / 2 ^ k / 2:=by rw[Nat.pow_succ,Nat.div_div_eq_div_mul]
  simp only[iW,step,fX,ih,e,Lh];by_cases h:(fX k r b ^^^ b / 2 ^ k) % 2=1
  ·simp only[h,if_true];rw[Nat.xor_assoc,Nat.xor_assoc,Nat.xor_comm (b / 2 ^ k / 2)]
  ·simp only[h,if_false]
theorem Lz(r b:Nat)(a:b<256):fX 8 r b=oa r b:=by
 have h:=Dl 8 r b;rw[show b / 2 ^ 8=0 by omega,Nat.xor_zero]at h;exact h.symm
theorem gz{a:Nat}(c:a<4294967296)(d:b<4294967296):a ^^^ b<4294967296:=Nat.xor_lt_two_pow (n:=32) c d
theorem LV(h:r<4294967296):step r<4294967296:=by
 unfold step;split
 ·exact gz (by omega) (by omega)
 ·omega
theorem Dm(k:Nat){r:Nat}(h:r<4294967296):iW k r<4294967296:=by
 induction k with
 | zero=>exact h
 | succ k ih=>exact LV ih
theorem Jl(k b:Nat){r:Nat}(h:r<4294967296):fX k r b<4294967296:=by
 induction k with
 | zero=>exact h
 | succ k ih=>
  unfold fX;split
  ·exact gz (by omega) (by omega)
  ·omega
theorem DR(h:r<4294967296)(a:b<256):oa r b<4294967296:=Dm 8 (gz h (by omega))
def bK(s:ByteArray)(i:Nat):Nat:=if h:i<s.size then s[i].toNat else 0
theorem eB{s:ByteArray}{k:Nat}(h:k<s.size):bK s k=s[k].toNat:=by simp[bK,h]
theorem rt(s:ByteArray)(k:Nat):bK s k<256:=by
 unfold bK;split
 ·exact UInt8.toNat_lt _
 ·omega
def jb(s:ByteArray)(r:Nat):Nat->Nat
 | 0=>r
 | k+1=>oa (jb s r k) (bK s k)
theorem uQ(s:ByteArray){r:Nat}(h:r<4294967296)(k:Nat):jb s r k<4294967296:=by
 induction k with
 | zero=>exact h
 | succ k ih=>exact DR ih (rt s k)
def jD(c:Nat)(s:ByteArray):Nat:=jb s (c ^^^ 4294967295) s.size ^^^ 4294967295
theorem qi{c:Nat}(s:ByteArray)(h:c<4294967296):jD c s<4294967296:=gz (uQ s (gz h (by omega)) _) (by omega)
theorem Be(a:Nat)(b:a<4294967296):bits .and .u32 (a:Int) 1=((a % 2:Nat):Int):=by
 have h:=u32_and_nat a 1 b (by omega);rw[nat_mask1]at h;exact h
theorem LJ(x b k:Nat)(c:x<4294967296)(d:b<256):
  bits .and .u32 (bits .xor .u32 (x:Int) ((b:Int) / 2 ^ k % 4294967296)) 1=(((x ^^^ (b / 2 ^ k)) % 2:Nat):Int):=by
 have e:((b:Int) / 2 ^ k % 4294967296)=((b / 2 ^ k:Nat):Int):=by
  have a:b / 2 ^ k<=b:=Nat.div_le_self _ _;have:((b:Int) / 2 ^ k)=((b / 2 ^ k:Nat):Int):=by push_cast;rfl
  rw[this];clear this;generalize b / 2 ^ k=q at *;omega
 have a:b / 2 ^ k<=b:=Nat.div_le_self _ _;rw[e,u32_xor_nat x (b / 2 ^ k) c (by omega),Be _ (gz c (by omega))]
theorem Ny(x:Nat)(h:x<4294967296):bits .xor .u32 (x:Int) 4294967295=((x ^^^ 4294967295:Nat):Int):=u32_xor_nat x 4294967295 h (by omega)
theorem Mc:IntKind.u32.max=4294967295:=by decide
theorem Lg(x:Nat)(h:x<4294967296):bits .xor .u32 IntKind.u32.max (x:Int)=((x ^^^ 4294967295:Nat):Int):=by
 rw[Mc,Nat.xor_comm];exact u32_xor_nat 4294967295 x (by omega) h
theorem xd(x:Nat)(h:x<4294967296):ύ (x:Int)=(x:Int):=by
 unfold ύ;omega
end
section
theorem an(w:ω)(a:Obj):δ w.1.size w (w.alloc a):=(Below.refl _ _).alloc (Nat.le_refl _) _
theorem aJ(w:ω)(a b:Obj):δ w.1.size w ((w.alloc a).alloc b):=(an w a).alloc (by simp) _
theorem bT(w:ω)(a b c:Obj):δ w.1.size w (((w.alloc a).alloc b).alloc c):=(aJ w a b).alloc (by simp;omega) _
variable {w w1 w2:ω}
theorem ak(h:δ w.1.size w w1)(a:δ w1.1.size w1 w2):δ w.1.size w w2:=h.trans (a.mono h.size)
theorem aB(h:Hid (δ w.1.size w w1))(x:δ w1.1.size w1 w2):Hid (δ w.1.size w w2):=yz (ak (yx h) x)
theorem yQ(x y z:Int)(w:ω):
  χ prog 176 #[κ #[J Z x,J Z y,J Z z]] w fun e a=>e=ρ (κ #[J Z x,J Z y,J Z z])/\δ w.1.size w a:=by
 go_enter func176,ntmps176;go_wp2;exact ϋ (v:=κ #[J Z x,J Z y,J Z z]) (by simp[results,results176,go_sem]) rfl ⟨rfl,aJ _ _ _⟩
theorem sw(a b c d f g:Int)(w:ω):
  χ prog 195 #[κ #[J Z a,J Z b,J Z c],κ #[J Z d,J Z f,J Z g]] w fun e h=>e=ρ (J Z (dx a b c d f g))/\δ w.1.size w h:=by
 go_enter func195,ntmps195;go_wp2;go_ret;exact⟨rfl,aJ _ _ _⟩
theorem jg(a b c d f g:Int)(w:ω):
  χ prog 140 #[κ #[J Z a,J Z b,J Z c],κ #[J Z d,J Z f,J Z g]] w fun e h=>e=ρ (J Z (dx a b c d f g))/\δ w.1.size w h:=by
 go_enter func140,ntmps140;go_wp2;go_ret;exact⟨rfl,aJ _ _ _⟩
theorem bP(n a b:Int)(w:ω):
  χ prog 61 #[J Z n,J Z a,J Z b] w fun e c=>e=ρ (β (decide (a<=n)&&decide (n<=b)))/\c=w:=by
 by_cases h:a<=n
 ·go_enter func61,ntmps61;go_wp2;go_ret;exact⟨by simp[h],rfl⟩
 ·go_enter func61,ntmps61;go_wp2;go_ret;exact⟨by simp;omega,rfl⟩
end
section
open Go.RowKit Go.Extern.Stop Go.Stop Go.Extern
theorem Js(v:μ)(w:ω):(Extern.ReflectliteType.typeOf #[.iface 291 v]).run prog w=.ok (.iface 230 (κ #[π (ς ⟨3,291,ν⟩)])) w:=by kernel_rfl
theorem zY(w:ω):(callFunc 264 #[κ #[π (ς ⟨3,291,ν⟩)]]).run prog w=.ok (Next.value (β θ)) w:=
 (@run_callFunc_extern Tryz.prog 264 _ (Extern.ReflectliteType.method fun t => do Extern.Rtype.noPackHeld "Comparable" t; pure (.bool (← typeInfo t).comparable)) Tryz.func264 (by kernel_rfl) (by kernel_rfl) (by kernel_rfl) (by kernel_rfl) _ w).trans (by kernel_rfl)
theorem pn (v : Value) (w : World) : (Go.method 423 230 v "Comparable").run Tryz.prog w = .ok (264, v) w := by kernel_rfl
theorem MN:(prog.info? 291).map (·.comparable)=ς θ:=by kernel_rfl
theorem MP:(prog.info? 311).map (·.size)=ς 1:=by kernel_rfl
theorem NM(v:μ)(a:TypeId)(w:ω):(Instr.typeAssert (.iface 201 v) a 232 θ).run prog w=.ok (.tuple #[.nilIface,β φ]) w:=run_typeAssert_lacksB underlying232 (by kernel_rfl) (by kernel_rfl) v a w
theorem Eh(v:μ)(a:TypeId)(w:ω):(Instr.typeAssert (.iface 201 v) a 235 θ).run prog w=.ok (.tuple #[.iface 201 v,β θ]) w:=run_typeAssert_hasB underlying235 (by kernel_rfl) v a w
theorem Al (v : Value) (w : World) : (Go.method 423 201 v "Unwrap").run Tryz.prog w = .ok (258, v) w := by kernel_rfl
def bQ(b:η)(w:ω):Prop:=w.cell? ⟨1,0,ν⟩=ς (.iface 291 (π (ς b)))
variable {b:η} {w:ω}
theorem bQ.lt(h:bQ b w):1<w.1.size:=World.block_lt_of_cell? w _ h
theorem bQ.kept{a:ω}(h:bQ b w)(c:δ w.1.size w a):bQ b a:=by
 unfold bQ;rw[c.cell (p:=⟨1,0,ν⟩) h.lt];exact h
theorem MQ(b:η)(w:ω):
  χ prog 131 #[.nilIface,.iface 291 (π (ς b))] w fun e a=>e=ρ (β φ)/\a=w:=by
 have c:=run_eql_iface_nil_left (P:=prog) w 291 (π (ς b)) underlying123;go_enter func131,ntmps131;go_wp2;go_ret;exact⟨rfl,rfl⟩
theorem Fg(a:ByteArray)(b:η)(w:ω)(h:bQ b w):
  χ prog 258 #[κ #[.string a]] w fun e d=>e=ρ (.iface 291 (π (ς b)))/\δ w.1.size w d:=by
 have c:bQ b (w.alloc (ξ #[.string a] 201)):=h.kept (an _ _);unfold bQ at c;go_enter func258,ntmps258;go_wp2;go_ret;exact⟨rfl,an _ _⟩
theorem Jt(a:ByteArray)(b:η)(w:ω)(h:bQ b w):
  χ prog 131 #[.iface 201 (κ #[.string a]),.iface 291 (π (ς b))] w fun e o=>e=ρ (β θ)/\δ w.1.size w o:=by
 obtain⟨i,g,c⟩:=Option.map_eq_some_iff.1 MN;obtain⟨j,k,l⟩:=Option.map_eq_some_iff.1 MP;have q:=@run_callFunc_extern prog 158 _ Extern.ReflectliteType.typeOf func158 (by kernel_rfl) (by kernel_rfl) (by kernel_rfl) (by kernel_rfl);have u:=Js;have p:=zY;have r:=pn;have t:=NM;have v:=Eh;have s:=Al;have f:=fun w=>run_eql_iface_ptr_same (P:=prog) w b underlying123 underlying291 g c k;have m:=fun w=>run_eql_iface_types (P:=prog) 201 291 (κ #[.string a]) (π (ς b)) underlying123 (by decide) w;have d:=yz h;clear h;go_enter func131,ntmps131;go_wp2;refine wp_loop_rounds 2 ?_;rw[rounds_succ];go_wp2_with (go_at_call 258;refine(Fg a b _ (yx d)).mono ?_;rintro e x ⟨rfl,n⟩);rw[rounds_succ];go_wp2;go_ret;exact⟨rfl,n⟩
end
theorem qJ{m x:Int}(h:¬(-m<=x/\x<=m)):inB m x=φ:=by simpa[inB] using h
theorem pS(m x y z:Int)(w:ω)(o:0<=m)(u:m<=1000000):
  χ prog 149 #[κ #[J Z x,J Z y,J Z z],J Z m] w fun e r=>e=ρ (β (aS m x y z))/\δ w.1.size w r:=by
 have v:∀w:ω,(Instr.index 220 (κ #[J Z x,J Z y,J Z z]) (J Z 0)).run prog w=.ok (J Z x) w:=fun _=>by kernel_rfl
 have A:∀w:ω,(Instr.index 220 (κ #[J Z x,J Z y,J Z z]) (J Z 1)).run prog w=.ok (J Z y) w:=fun _=>by kernel_rfl
 have B:∀w:ω,(Instr.index 220 (κ #[J Z x,J Z y,J Z z]) (J Z 2)).run prog w=.ok (J Z z) w:=fun _=>by kernel_rfl
 have p:ύ (-m) = -m:=au (by omega) (by omega);go_enter func149,ntmps149;go_wp2_with fail;refine(yQ x y z _).mono ?_;rintro e s ⟨rfl,g⟩;have d:δ w.1.size w s:=ak (an _ _) g;clear g;go_wp2_with fail;go_loop [9] (fun i=>∃k:Nat,k<=3/\i=J Z k/\Hid (0<k->inB m x=θ)/\Hid (1<k->inB m y=θ)/\Hid (2<k->inB m z=θ)) (fun i=>3-(ώ i).toNat)
 case atStart=>exact⟨0,Nat.zero_le _,rfl,yz (by omega),yz (by omega),yz (by omega)⟩
 case round=>
  obtain⟨k,t,rfl,l,n,q⟩:=hrel;have j:k=0\/k=1\/k=2\/k=3:=by omega
  rcases j with rfl | rfl | rfl | rfl
  ·by_cases b:-m<=x
   ·by_cases c:x<=m
    ·have f:=yz (jJ.2 ⟨b,c⟩);go_wp2;go_round
     case rel=>exact⟨1,by omega,rfl,yz (fun _=>yx f),yz (by omega),yz (by omega)⟩
     case measure=>simp[ώ]
    ·have a:=yz (qJ (m:=m) (x:=x) (fun h=>c h.2));go_wp2;go_ret;exact⟨by simp[aS,yx a],d⟩
   ·have a:=yz (qJ (m:=m) (x:=x) (fun h=>b h.1));go_wp2;go_ret;exact⟨by simp[aS,yx a],d⟩
  ·by_cases b:-m<=y
   ·by_cases c:y<=m
    ·have f:=yz (jJ.2 ⟨b,c⟩);go_wp2;go_round
     case rel=>exact⟨2,by omega,rfl,yz (fun _=>yx l (by omega)),yz (fun _=>yx f),yz (by omega)⟩
     case measure=>simp[ώ]
    ·have a:=yz (qJ (m:=m) (x:=y) (fun h=>c h.2));go_wp2;go_ret;exact⟨by simp[aS,yx a],d⟩
   ·have a:=yz (qJ (m:=m) (x:=y) (fun h=>b h.1));go_wp2;go_ret;exact⟨by simp[aS,yx a],d⟩
  ·by_cases b:-m<=z
   ·by_cases c:z<=m
    ·have f:=yz (jJ.2 ⟨b,c⟩);go_wp2;go_round
     case rel=>exact⟨3,by omega,rfl,yz (fun _=>yx l (by omega)),yz (fun _=>yx n (by omega)),yz (fun _=>yx f)⟩
     case measure=>simp[ώ]
    ·have a:=yz (qJ (m:=m) (x:=z) (fun h=>c h.2));go_wp2;go_ret;exact⟨by simp[aS,yx a],d⟩
   ·have a:=yz (qJ (m:=m) (x:=z) (fun h=>b h.1));go_wp2;go_ret;exact⟨by simp[aS,yx a],d⟩
  ·go_wp2;go_ret;exact⟨by simp[aS,yx l (by omega),yx n (by omega),yx q (by omega)],d⟩
def eqB(a1 a2 a3 b1 b2 b3:Int):Bool:=decide (a1=b1/\a2=b2/\a3=b3)
theorem yi(a b c d e f:Int)(w:ω):(Op.equalIn 10000 93 (κ #[J Z a,J Z b,J Z c]) (κ #[J Z d,J Z e,J Z f])).run prog w=.ok (eqB a b c d e f) w:=by
 have h:=run_equalIn_struct (P:=prog) w 9999 93 #[J Z a,J Z b,J Z c] #[J Z d,J Z e,J Z f] (by kernel_rfl) (by kernel_rfl);have k:(prog.fieldsOf 93).toList=(prog.fieldsOf 93).toList:=rfl;refine h.trans ?_;by_cases g:a=d
 ·by_cases i:b=e
  ·by_cases j:c=f
   ·simp[go_sem,eqB,g,i,j]
   ·simp[go_sem,eqB,g,i,j]
  ·simp[go_sem,eqB,g,i]
 ·simp[go_sem,eqB,g]
theorem mB(a b c d e f:Int)(w:ω):(binOp .neq 93 (κ #[J Z a,J Z b,J Z c]) (κ #[J Z d,J Z e,J Z f])).run prog w=.ok (β (!eqB a b c d e f)) w:=by
 rw[run_neq_struct,yi];rfl
theorem zM(a b c d e f:Int)(w:ω):(binOp .eql 93 (κ #[J Z a,J Z b,J Z c]) (κ #[J Z d,J Z e,J Z f])).run prog w=.ok (β (eqB a b c d e f)) w:=by
 rw[run_eql_struct,yi];rfl
theorem dS(x y z:Int)(w:ω):
  χ prog 148 #[κ #[J Z x,J Z y,J Z z]] w fun e g=>e=ρ (β (aD x y z))/\δ w.1.size w g:=by
 have d:=fun w=>mB x y z 0 0 0 w;cases b:eqB x y z 0 0 0
 ·rw[b]at d;have c:Hid (aD x y z=aS 1000000 x y z):=yz (by unfold aD;rw[show jG x y z=φ from b];simp);go_enter func148,ntmps148;go_wp2_with fail;refine(pS 1000000 x y z _ (by omega) (by omega)).mono ?_;rintro e h ⟨rfl,a⟩;have f:δ w.1.size w h:=ak (an _ _) a;clear a;go_wp2;go_ret;exact⟨by rw[yx c];rfl,f⟩
 ·rw[b]at d;have c:Hid (aD x y z=φ):=yz (by unfold aD;rw[show jG x y z=θ from b];simp);go_enter func148,ntmps148;go_wp2;go_ret;exact⟨by rw[yx c];rfl,an _ _⟩
theorem isB(m x:Int):(decide (-m<=x)&&decide (x<=m))=inB m x:=by unfold inB;rw[Bool.decide_and]
theorem gR(m x y z:Int)(w:ω)(d:0<=m)(h:m<=1000000):
  χ prog 134 #[κ #[J Z x,J Z y,J Z z],J Z m] w fun e g=>e=ρ (β (aS m x y z))/\δ w.1.size w g:=by
 have f:ύ (-m) = -m:=au (by omega) (by omega);go_enter func134,ntmps134;go_wp2_with fail;refine(bP x (-m) m _).mono ?_;rintro e c ⟨rfl,rfl⟩;rw[isB];cases a:inB m x
 ·go_wp2;go_ret;exact⟨by simp[aS,a],an _ _⟩
 ·go_wp2_with fail;refine(bP y (-m) m _).mono ?_;rintro e c ⟨rfl,rfl⟩;rw[isB];cases b:inB m y
  ·go_wp2;go_ret;exact⟨by simp[aS,b],an _ _⟩
  ·go_wp2_with fail;refine(bP z (-m) m _).mono ?_;rintro e c ⟨rfl,rfl⟩;rw[isB];go_wp2;go_ret;exact⟨by simp[aS,a,b],an _ _⟩
theorem fg(x y z:Int)(w:ω):
  χ prog 121 #[κ #[J Z x,J Z y,J Z z]] w fun e k=>e=ρ (β (aD x y z))/\δ w.1.size w k:=by
 have l:=fun w=>mB x y z 0 0 0 w;go_enter func121,ntmps121;go_wp2_with fail;refine(gR 1000000 x y z _ (by omega) (by omega)).mono ?_;rintro e f ⟨rfl,a⟩;have c:δ w.1.size w f:=ak (an _ _) a;have b:∀i:Nat,f.cell? ⟨w.1.size,i,ν⟩=_:=fun i=>a.cell (p:=⟨w.1.size,i,ν⟩) (by simp);have g:=b 0;have h:=b 1;have j:=b 2;simp at g h j;clear a b;cases d:aS 1000000 x y z
 ·go_wp2;go_ret;exact⟨by simp[aD,d],c⟩
 ·go_wp2;go_ret;exact⟨by simp[aD,d];rfl,c⟩
section
def aI(w:ω)(b:Nat)(x y z:Int):Prop:=w.cell? ⟨b,0,ν⟩=ς (J Z x)/\w.cell? ⟨b,1,ν⟩=ς (J Z y)/\w.cell? ⟨b,2,ν⟩=ς (J Z z)
def dI(w:ω)(b:Nat):Prop:=w.frozen? ⟨b,0,ν⟩=φ/\w.frozen? ⟨b,1,ν⟩=φ/\w.frozen? ⟨b,2,ν⟩=φ
variable {x z:Int} {b:Nat} {w w':ω}
theorem aI.kept{y:Int}(h:aI w b x y z)(c:b<w.1.size)(a:δ w.1.size w w'):aI w' b x y z:=by
 obtain⟨d,e,f⟩:=h;exact⟨by rw[a.cell (p:=⟨b,0,ν⟩) c];exact d,by rw[a.cell (p:=⟨b,1,ν⟩) c];exact e,by rw[a.cell (p:=⟨b,2,ν⟩) c];exact f⟩
theorem dI.kept(h:dI w b)(c:b<w.1.size)(a:δ w.1.size w w'):dI w' b:=by
 obtain⟨d,e,f⟩:=h;exact⟨by rw[a.frozen (p:=⟨b,0,ν⟩) c];exact d,by rw[a.frozen (p:=⟨b,1,ν⟩) c];exact e,by rw[a.frozen (p:=⟨b,2,ν⟩) c];exact f⟩
theorem aK(w:ω)(x y z:Int)(t:TypeId):aI (w.alloc (ξ #[J Z x,J Z y,J Z z] t)) w.1.size x y z:=by
 refine⟨?_,?_,?_⟩<;>simp
theorem dD(w:ω)(x y z:Int)(t:TypeId):dI (w.alloc (ξ #[J Z x,J Z y,J Z z] t)) w.1.size:=by
 refine⟨?_,?_,?_⟩<;>simp
theorem aI.alloc{y:Int}(h:aI w b x y z)(a:b<w.1.size)(o:Obj):aI (w.alloc o) b x y z:=h.kept a (an _ _)
theorem bI{c:ω}(h:δ w.1.size w c)(a:w.1.size<=b)(x y z:μ):δ w.1.size w (((c.setCell ⟨b,0,ν⟩ x).setCell ⟨b,1,ν⟩ y).setCell ⟨b,2,ν⟩ z):=((h.setCell a _).setCell a _).setCell a _
theorem IG(w:ω)(a b c d:Obj):δ w.1.size w ((((w.alloc a).alloc b).alloc c).alloc d):=(bT w a b c).alloc (by simp;omega) _
theorem zI(c d f g h i:Int)(w:ω):
  χ prog 178 #[κ #[J Z c,J Z d,J Z f],κ #[J Z g,J Z h,J Z i]] w fun e B=>e=ρ (J Z (zH c d f g h i))/\δ w.1.size w B:=by
 go_enter func178,ntmps178;go_wp2_with fail;refine(dS c d f _).mono ?_;rintro e u ⟨rfl,a⟩;have r:δ w.1.size w u:=ak (aJ _ _ _) a;have A:w.1.size+2<=u.1.size:=by have:=a.size;simpa[Nat.add_assoc] using this
 have s:aI u w.1.size c d f:=((by simpa using aK w c d f _:aI _ w.1.size c d f).alloc (by simp) _).kept (by simp;omega) a;have t:aI u (w.1.size+1) g h i:=(by simpa using aK (w.alloc _) g h i _:aI _ (w.1.size+1) g h i).kept (by simp) a;clear a;have j:=s;obtain⟨l,m,n⟩:=s;have k:=t;obtain⟨o,p,q⟩:=t;cases x:aD c d f
 ·go_wp2;go_ret;exact⟨by simp[zH,x],r⟩
 ·go_wp2_with fail;refine(dS g h i _).mono ?_;rintro e z ⟨rfl,b⟩;have s:=j.kept (by omega) b;have t:=k.kept (by omega) b;replace A:w.1.size+2<=z.1.size:=by have:=b.size;omega
  replace r:δ w.1.size w z:=ak r b;clear j l m n k o p q;clear b;have j:=s;obtain⟨l,m,n⟩:=s;have k:=t;obtain⟨o,p,q⟩:=t;cases y:aD g h i
  ·go_wp2;go_ret;exact⟨by simp[zH,y],r⟩
  ·go_wp2_with fail;refine(sw c d f g h i _).mono ?_;rintro e C ⟨rfl,v⟩;go_wp2;go_ret;exact⟨by simp[zH,x,y],ak r v⟩
theorem yf(c d f g h i:Int)(w:ω):
  χ prog 177 #[κ #[J Z c,J Z d,J Z f],κ #[J Z g,J Z h,J Z i]] w fun e L=>e=ρ (κ #[J Z (crI (aD c d f&&aD g h i) d f h i),J Z (crI (aD c d f&&aD g h i) f c i g),J Z (crI (aD c d f&&aD g h i) c d g h)])/\δ w.1.size w L:=by
 go_enter func177,ntmps177;go_wp2_with fail;refine(dS c d f _).mono ?_;rintro e q ⟨rfl,a⟩;have C:δ w.1.size w q:=ak (bT _ _ _ _) a;have K:w.1.size+3<=q.1.size:=by have:=a.size;simpa[Nat.add_assoc] using this
 have D:aI q w.1.size c d f:=(((by simpa using aK w c d f _:aI _ w.1.size c d f).alloc (by simp) _).alloc (by simp;omega) _).kept (by simp;omega) a;have E:aI q (w.1.size+1) g h i:=((by simpa using aK (w.alloc _) g h i _:aI _ (w.1.size+1) g h i).alloc (by simp) _).kept (by simp) a;have F:aI q (w.1.size+1+1) 0 0 0:=(by simpa using aK ((w.alloc _).alloc _) 0 0 0 _:aI _ (w.1.size+1+1) 0 0 0).kept (by simp) a;have z:dI q (w.1.size+1+1):=(by simpa using dD ((w.alloc _).alloc _) 0 0 0 _:dI _ (w.1.size+1+1)).kept (by simp) a;clear a;have n:=D;obtain⟨r,s,t⟩:=D;have o:=E;obtain⟨u,x,y⟩:=E;have p:=F;have m:=z;obtain⟨j,k,l⟩:=F;obtain⟨fr0,A,B⟩:=z;cases G:aD c d f
 ·go_wp2;exact ϋ (v:=κ #[J Z 0,J Z 0,J Z 0]) (by simp[results,results177,go_sem,j,k,l]) rfl ⟨by simp[crI,G],bI C (by omega) _ _ _⟩
 ·go_wp2_with fail;refine(dS g h i _).mono ?_;rintro e I ⟨rfl,b⟩;have D:=n.kept (by omega) b;have E:=o.kept (by omega) b;have F:=p.kept (by omega) b;have z:=m.kept (by omega) b;replace K:w.1.size+3<=I.1.size:=by have:=b.size;omega
  replace C:δ w.1.size w I:=ak C b;clear n r s t o u x y p m j k l fr0 A B;clear b;have n:=D;obtain⟨r,s,t⟩:=D;have o:=E;obtain⟨u,x,y⟩:=E;have p:=F;have m:=z;obtain⟨j,k,l⟩:=F;obtain⟨fr0,A,B⟩:=z;cases H:aD g h i
  ·go_wp2;exact ϋ (v:=κ #[J Z 0,J Z 0,J Z 0]) (by simp[results,results177,go_sem,j,k,l]) rfl ⟨by simp[crI,H],bI C (by omega) _ _ _⟩
  ·go_wp2;exact ϋ (v:=κ #[J Z (crW d f h i),J Z (crW f c i g),J Z (crW c d g h)]) (by simp[results,results177,go_sem,j,k,l,crW]) rfl ⟨by simp[crI,G,H],bI C (by omega) _ _ _⟩
theorem qw(a b c d f g:Int)(w:ω):
  χ prog 139 #[κ #[J Z a,J Z b,J Z c],κ #[J Z d,J Z f,J Z g]] w fun e h=>e=ρ (κ #[J Z (crW b c f g),J Z (crW c a g d),J Z (crW a b d f)])/\δ w.1.size w h:=by
 go_enter func139,ntmps139;go_wp2;exact ϋ (v:=κ #[J Z (crW b c f g),J Z (crW c a g d),J Z (crW a b d f)]) (by simp[results,results139,go_sem,crW]) rfl ⟨rfl,bT _ _ _ _⟩
end
theorem CO{a b:Int}(h:b≠0)(d:-1000000<=b/\b<=1000000):ύ (a.tmod b)=a.tmod b/\-1000000<=a.tmod b/\a.tmod b<=1000000:=by
 have:=AR a b h;have c:-1000000<=a.tmod b/\a.tmod b<=1000000:=by omega
 exact⟨au (by omega) (by omega),c⟩
theorem ek(w:ω)(n:Nat):δ w.1.size w (w.drewN n):=⟨rfl,rfl,rfl,Nat.le_refl _,fun _ _=>rfl⟩
theorem ig(a b:Int)(w:ω)(z:-1000000<=a/\a<=1000000)(A:-1000000<=b/\b<=1000000):
  χ prog 147 #[J Z a,J Z b] w fun e C=>e=ρ (J Z ((Int.gcd a b:Nat):Int))/\∃n,C=w.drewN n:=by
 go_enter func147,ntmps147;go_wp2;go_loopw [0,1] (fun u v wr=>∃p q:Int,u=J Z p/\v=J Z q/\Hid (-1000000<=p/\p<=1000000)/\Hid (-1000000<=q/\q<=1000000)/\Hid (Int.gcd p q=Int.gcd a b)/\∃n,wr=w.drewN n) (fun _ v _=>(ώ v).natAbs)
 case atStart=>exact⟨a,b,rfl,rfl,yz z,yz A,yz rfl,0,rfl⟩
 case round=>
  obtain⟨p,q,rfl,rfl,B,t,g,k,rfl⟩:=hrel;by_cases d:q=0
  ·subst d;have l:=yz (BQ p);by_cases s:p<0
   ·have y:Hid (ύ (-p) = -p):=yz (by have:=yx B;exact au (by omega) (by omega));have f:=yz (show ((Int.gcd a b:Nat):Int) = -p by rw[<-yx g,yx l,if_pos s]);go_wp2;go_ret;exact⟨by rw[yx f];exact congrArg (fun x=>Ending.returned (Value.int .i64 x)) (yx y),k,rfl⟩
   ·have f:=yz (show ((Int.gcd a b:Nat):Int)=p by rw[<-yx g,yx l,if_neg s]);go_wp2;go_ret;exact⟨by rw[yx f];rfl,k,rfl⟩
  ·have D:(q==0)=φ:=by simp[d]
   have h:=CO (a:=p) d (yx t);have m:=yz (AR p q d);have o:=yz (BP p q);obtain⟨r,i⟩:∃r,p.tmod q=r:=⟨_,rfl⟩
   have j:=h.1;have c:=yz h.2;rw[i]at j c m o;clear h;go_wp2;go_region
   go_wp2;go_roundw
   case rel=>exact⟨q,r,rfl,rfl,t,c,yz ((yx o).trans (yx g)),k+1,rfl⟩
   case measure=>simp[ώ];exact yx m
theorem ko(a b:Int)(w:ω)(z:-1000000<=a/\a<=1000000)(A:-1000000<=b/\b<=1000000):
  χ prog 138 #[J Z a,J Z b] w fun e C=>e=ρ (J Z ((Int.gcd a b:Nat):Int))/\∃n,C=w.drewN n:=by
 go_enter func138,ntmps138;go_wp2;go_loopw [0,1] (fun u v wr=>∃p q:Int,u=J Z p/\v=J Z q/\Hid (-1000000<=p/\p<=1000000)/\Hid (-1000000<=q/\q<=1000000)/\Hid (Int.gcd p q=Int.gcd a b)/\∃n,wr=w.drewN n) (fun _ v _=>(ώ v).natAbs)
 case atStart=>exact⟨a,b,rfl,rfl,yz z,yz A,yz rfl,0,rfl⟩
 case round=>
  obtain⟨p,q,rfl,rfl,B,t,g,k,rfl⟩:=hrel;by_cases d:q=0
  ·subst d;have l:=yz (BQ p);by_cases s:p<0
   ·have y:Hid (ύ (-p) = -p):=yz (by have:=yx B;exact au (by omega) (by omega));have f:=yz (show ((Int.gcd a b:Nat):Int) = -p by rw[<-yx g,yx l,if_pos s]);go_wp2;go_ret;exact⟨by rw[yx f];exact congrArg (fun x=>Ending.returned (Value.int .i64 x)) (yx y),k,rfl⟩
   ·have f:=yz (show ((Int.gcd a b:Nat):Int)=p by rw[<-yx g,yx l,if_neg s]);go_wp2;go_ret;exact⟨by rw[yx f];rfl,k,rfl⟩
  ·have D:(q==0)=φ:=by simp[d]
   have h:=CO (a:=p) d (yx t);have m:=yz (AR p q d);have o:=yz (BP p q);obtain⟨r,i⟩:∃r,p.tmod q=r:=⟨_,rfl⟩
   have j:=h.1;have c:=yz h.2;rw[i]at j c m o;clear h;go_wp2;go_roundw
   case rel=>exact⟨q,r,rfl,rfl,t,c,yz ((yx o).trans (yx g)),k,rfl⟩
   case measure=>simp[ώ];exact yx m
theorem iO(x y z:Int)(w:ω)(j:aD x y z=θ):
  χ prog 122 #[κ #[J Z x,J Z y,J Z z]] w fun e D=>e=ρ (κ #[J Z (ύ (x.tdiv (gI x y z))),J Z (ύ (y.tdiv (gI x y z))),J Z (ύ (z.tdiv (gI x y z)))])/\δ w.1.size w D:=by
 obtain⟨⟨k,l,p⟩,_⟩:=bZ.1 j;have i:=pj k l;have c:=Je j;go_enter func122,ntmps122;go_wp2_with fail;go_quiet (first | (go_at_call_of 138 (Value.int IntKind.i64 x);refine Calls.quiet_of (ko x y _ k l)) | (go_at_call 138;refine Calls.quiet_of (ko _ z _ ?_ p);omega))
 have m:(gI x y z==0)=φ:=by simp;omega
 have b:((Int.gcd ((Int.gcd x y:Nat):Int) z:Nat):Int)=gI x y z:=rfl;rw[b];clear b;generalize a:gI x y z=g at c m ⊢;have s:=yz a;clear a;have q:aI (((w.alloc (ξ #[J Z x,J Z y,J Z z] 93)).alloc (ξ #[J Z 0,J Z 0,J Z 0] 93)).drewN nq) w.1.size x y z:=((aK w x y z _).alloc (by simp) _)
 have r:aI (((w.alloc (ξ #[J Z x,J Z y,J Z z] 93)).alloc (ξ #[J Z 0,J Z 0,J Z 0] 93)).drewN nq) (w.1.size+1) 0 0 0:=(by simpa using aK (w.alloc (ξ #[J Z x,J Z y,J Z z] 93)) 0 0 0 93:aI ((w.alloc (ξ #[J Z x,J Z y,J Z z] 93)).alloc (ξ #[J Z 0,J Z 0,J Z 0] 93)) (w.1.size+1) 0 0 0)
 have n:dI (((w.alloc (ξ #[J Z x,J Z y,J Z z] 93)).alloc (ξ #[J Z 0,J Z 0,J Z 0] 93)).drewN nq) (w.1.size+1):=(by simpa using dD (w.alloc (ξ #[J Z x,J Z y,J Z z] 93)) 0 0 0 93:dI ((w.alloc (ξ #[J Z x,J Z y,J Z z] 93)).alloc (ξ #[J Z 0,J Z 0,J Z 0] 93)) (w.1.size+1))
 have o:δ w.1.size w (((w.alloc (ξ #[J Z x,J Z y,J Z z] 93)).alloc (ξ #[J Z 0,J Z 0,J Z 0] 93)).drewN nq):=ak (aJ _ _ _) (ek _ _);generalize ((w.alloc (ξ #[J Z x,J Z y,J Z z] 93)).alloc (ξ #[J Z 0,J Z 0,J Z 0] 93)).drewN nq=E at q r n o ⊢;obtain⟨t,u,A⟩:=q;obtain⟨d,f,h⟩:=r;obtain⟨fr0,B,C⟩:=n;clear i k l p j;go_wp2_with fail;go_region
 go_wp2;exact ϋ (v:=κ #[J Z (ύ (x.tdiv g)),J Z (ύ (y.tdiv g)),J Z (ύ (z.tdiv g))]) (by simp[results,results122,go_sem,d,f,h]) rfl ⟨by rw[yx s],(bI o (by omega) _ _ _).drew⟩
def gS(x y z:Int):Nat->Int
 | 0=>0
 | 1=>((Int.gcd 0 x:Nat):Int)
 | 2=>((Int.gcd ((Int.gcd 0 x:Nat):Int) y:Nat):Int)
 | _=>((Int.gcd ((Int.gcd ((Int.gcd 0 x:Nat):Int) y:Nat):Int) z:Nat):Int)
theorem Jf{x y z:Int}(k:Nat)(h:(-1000000<=x/\x<=1000000)/\(-1000000<=y/\y<=1000000)/\(-1000000<=z/\z<=1000000)):-1000000<=gS x y z k/\gS x y z k<=1000000:=by
 have b:=pj (a:=0) (m:=1000000) (by omega) h.1;have c:=pj (m:=1000000) (a:=((Int.gcd 0 x:Nat):Int)) (by omega) h.2.1;have d:=pj (m:=1000000) (a:=((Int.gcd ((Int.gcd 0 x:Nat):Int) y:Nat):Int)) (by omega) h.2.2
 match k with
 | 0=>exact⟨by show (-1000000:Int)<=0;omega,by show (0:Int)<=1000000;omega⟩
 | 1=>exact⟨by show (-1000000:Int)<=((Int.gcd 0 x:Nat):Int);omega,b.2⟩
 | 2=>exact⟨by show (-1000000:Int)<=((Int.gcd ((Int.gcd 0 x:Nat):Int) y:Nat):Int);omega,c.2⟩
 | k+3=>exact⟨by show (-1000000:Int)<=((Int.gcd ((Int.gcd ((Int.gcd 0 x:Nat):Int) y:Nat):Int) z:Nat):Int);omega,d.2⟩
theorem rV(a b c:Int)(w:ω):
  χ prog 183 #[κ #[J Z a,J Z b,J Z c]] w fun e Y=>e=ρ (κ #[J Z (prI (aD a b c) (gI a b c) a),J Z (prI (aD a b c) (gI a b c) b),J Z (prI (aD a b c) (gI a b c) c)])/\δ w.1.size w Y:=by
 go_enter func183,ntmps183;go_wp2_with fail;refine(dS a b c _).mono ?_;rintro e N ⟨rfl,d⟩;have A:δ w.1.size w N:=ak (aJ _ _ _) d;have S:w.1.size+2<=N.1.size:=by have:=d.size;simpa[Nat.add_assoc] using this
 have I:aI N w.1.size a b c:=((by simpa using aK w a b c _:aI _ w.1.size a b c).alloc (by simp) _).kept (by simp;omega) d;have L:aI N (w.1.size+1) 0 0 0:=(by simpa using aK (w.alloc _) 0 0 0 _:aI _ (w.1.size+1) 0 0 0).kept (by simp) d;have t:dI N (w.1.size+1):=(by simpa using dD (w.alloc _) 0 0 0 _:dI _ (w.1.size+1)).kept (by simp) d;clear d;have G:=I;obtain⟨q,r,s⟩:=I;have H:=L;have C:=t;obtain⟨h,j,l⟩:=L;obtain⟨fr0,y,z⟩:=t;cases O:aD a b c
 ·go_wp2;exact ϋ (v:=κ #[J Z 0,J Z 0,J Z 0]) (by simp[results,results183,go_sem,h,j,l]) rfl ⟨by simp[prI,O],bI A (by omega) _ _ _⟩
 ·go_wp2_with fail;refine(yQ a b c _).mono ?_;rintro e o ⟨rfl,f⟩;have I:=G.kept (by omega) f;have L:=H.kept (by omega) f;have t:=C.kept (by omega) f;replace S:w.1.size+2<=o.1.size:=by have:=f.size;omega
  replace A:δ w.1.size w o:=ak A f;clear f G H C q r s h j l fr0 y z;have V:∀w:ω,(Instr.index 220 (κ #[J Z a,J Z b,J Z c]) (J Z 0)).run prog w=.ok (J Z a) w:=fun _=>by kernel_rfl
  have W:∀w:ω,(Instr.index 220 (κ #[J Z a,J Z b,J Z c]) (J Z 1)).run prog w=.ok (J Z b) w:=fun _=>by kernel_rfl
  have X:∀w:ω,(Instr.index 220 (κ #[J Z a,J Z b,J Z c]) (J Z 2)).run prog w=.ok (J Z c) w:=fun _=>by kernel_rfl
  have p:=yz (bZ.1 O).1;have U:=yz (Je O);go_wp2;go_loopw [3,12] (fun u i wr=>∃(k n:Nat),k<=3/\i=J Z k/\u=J Z (gS a b c k)/\wr=o.drewN n) (fun _ i _=>3-(ώ i).toNat)
  case atStart=>exact⟨0,0,by omega,rfl,rfl,rfl⟩
  case round=>
   obtain⟨k,n,hk,rfl,rfl,rfl⟩:=hrel;have P:k=0\/k=1\/k=2\/k=3:=by omega
   rcases P with rfl | rfl | rfl | rfl
   ·go_wp2_with fail;refine(ig _ a _ (Jf 0 (yx p)) (yx p).1).mono ?_;rintro e R ⟨rfl,m,rfl⟩;go_wp2;go_roundw
    case rel=>exact⟨1,n+m,by omega,rfl,rfl,by simp⟩
    case measure=>simp[ώ]
   ·go_wp2_with fail;refine(ig _ b _ (Jf 1 (yx p)) (yx p).2.1).mono ?_;rintro e R ⟨rfl,m,rfl⟩;go_wp2;go_roundw
    case rel=>exact⟨2,n+m,by omega,rfl,rfl,by simp⟩
    case measure=>simp[ώ]
   ·go_wp2_with fail;refine(ig _ c _ (Jf 2 (yx p)) (yx p).2.2).mono ?_;rintro e R ⟨rfl,m,rfl⟩;go_wp2;go_roundw
    case rel=>exact⟨3,n+m,by omega,rfl,rfl,by simp⟩
    case measure=>simp[ώ]
   ·have E:gS a b c 3=gI a b c:=GS a b c;rw[E];clear E;have F:=yx U;have Q:(gI a b c==0)=φ:=by simp;omega
    generalize D:gI a b c=g at F Q ⊢;have T:=yz D;clear D V W X;have K:aI (o.drewN n) w.1.size a b c:=I;have M:aI (o.drewN n) (w.1.size+1) 0 0 0:=L;have x:dI (o.drewN n) (w.1.size+1):=t;have B:δ w.1.size w (o.drewN n):=ak A (ek _ _);clear I L t A S;go_wp2_with fail;generalize o.drewN n=R at K M x B ⊢;obtain⟨q,r,s⟩:=K;obtain⟨h,j,l⟩:=M;obtain⟨fr0,y,z⟩:=x;go_region
    go_wp2;exact ϋ (v:=κ #[J Z (ύ (a.tdiv g)),J Z (ύ (b.tdiv g)),J Z (ύ (c.tdiv g))]) (by simp[results,results183,go_sem,h,j,l]) rfl ⟨by rw[yx T];simp[prI,O],(bI B (by omega) _ _ _).drew⟩
theorem Fz(q r s t u v x y z:Int)(w:ω):
  χ prog 225 #[κ #[J Z q,J Z r,J Z s],κ #[J Z t,J Z u,J Z v],κ #[J Z x,J Z y,J Z z]] w fun e Y=>e=ρ (J Z (xo q r s t u v x y z))/\δ w.1.size w Y:=by
 go_enter func225,ntmps225;go_wp2_with fail;refine(dS q r s _).mono ?_;rintro e E ⟨rfl,n⟩;have A:δ w.1.size w E:=ak (bT _ _ _ _) n;have U:w.1.size+3<=E.1.size:=by have:=n.size;simpa[Nat.add_assoc] using this
 have B:aI E w.1.size q r s:=(((by simpa using aK w q r s _:aI _ w.1.size q r s).alloc (by simp) _).alloc (by simp;omega) _).kept (by simp;omega) n;have C:aI E (w.1.size+1) t u v:=((by simpa using aK (w.alloc _) t u v _:aI _ (w.1.size+1) t u v).alloc (by simp) _).kept (by simp) n;have D:aI E (w.1.size+1+1) x y z:=(by simpa using aK ((w.alloc _).alloc _) x y z _:aI _ (w.1.size+1+1) x y z).kept (by simp) n;clear n;have a:=B;obtain⟨d,f,g⟩:=B;have b:=C;obtain⟨h,i,j⟩:=C;have c:=D;obtain⟨k,l,m⟩:=D;cases R:aD q r s
 ·go_wp2;go_ret;exact⟨by simp[xo,R],A⟩
 ·go_wp2_with fail;refine(dS t u v _).mono ?_;rintro e V ⟨rfl,o⟩;have B:=a.kept (by omega) o;have C:=b.kept (by omega) o;have D:=c.kept (by omega) o;replace U:w.1.size+3<=V.1.size:=by have:=o.size;omega
  replace A:δ w.1.size w V:=ak A o;clear a d f g b h i j c k l m;clear o;have a:=B;obtain⟨d,f,g⟩:=B;have b:=C;obtain⟨h,i,j⟩:=C;have c:=D;obtain⟨k,l,m⟩:=D;cases S:aD t u v
  ·go_wp2;go_ret;exact⟨by simp[xo,S],A⟩
  ·go_wp2_with fail;refine(dS x y z _).mono ?_;rintro e Q ⟨rfl,p⟩;have B:=a.kept (by omega) p;have C:=b.kept (by omega) p;have D:=c.kept (by omega) p;replace U:w.1.size+3<=Q.1.size:=by have:=p.size;omega
   replace A:δ w.1.size w Q:=ak A p;clear a d f g b h i j c k l m;clear p;have a:=B;obtain⟨d,f,g⟩:=B;have b:=C;obtain⟨h,i,j⟩:=C;have c:=D;obtain⟨k,l,m⟩:=D;cases T:aD x y z
   ·go_wp2;go_ret;exact⟨by simp[xo,T],A⟩
   ·go_wp2_with fail;clear a b c;have W:=yz (show xo q r s t u v x y z=dx (crW r s u v) (crW s q v t) (crW q r t u) x y z by simp[xo,R,S,T]);have F:=ϊ d;have G:=ϊ f;have H:=ϊ g;have I:=ϊ h;have K:=ϊ i;have L:=ϊ j;have M:=ϊ k;have N:=ϊ l;have O:=ϊ m;refine de ?_;repeat (quiet_step (first | exact Calls.regrown_of (yf q r s t u v _) | exact Calls.regrown_of (sw _ _ _ x y z _)))
    refine di fun X P=>?_;clear d F f G g H h I i K j L k M l N m O;go_wp2;go_ret;exact⟨by rw[yx W];simp[crI],ak A (ό Q X P)⟩
theorem Kt(a b c d e f:Int):fk a b c d e f=(eqB (crI (aD a b c&&aD d e f) b c e f) (crI (aD a b c&&aD d e f) c a f d) (crI (aD a b c&&aD d e f) a b d e) 0 0 0&&decide (0<zH a b c d e f)):=by
 unfold fk crI zH;cases h:(aD a b c&&aD d e f)
 ·simp
 ·simp[eqB,jG]
theorem kW(d f g a b c:Int)(w:ω):
  χ prog 150 #[κ #[J Z d,J Z f,J Z g],κ #[J Z a,J Z b,J Z c]] w fun e A=>e=ρ (β (fk d f g a b c))/\δ w.1.size w A:=by
 have i:=yz (Kt d f g a b c);go_enter func150,ntmps150;go_wp2_with fail;refine(yf d f g a b c _).mono ?_;rintro e l ⟨rfl,h⟩;have j:δ w.1.size w l:=ak (aJ _ _ _) h;have u:aI l w.1.size d f g:=((aK w d f g _).alloc (by simp) _).kept (by simp;omega) h;have v:aI l (w.1.size+1) a b c:=(by simpa using aK (w.alloc _) a b c _:aI _ (w.1.size+1) a b c).kept (by simp) h;clear h;obtain⟨o,p,q⟩:=u;obtain⟨r,s,t⟩:=v;generalize crI (aD d f g&&aD a b c) f g b c=x at i ⊢;generalize crI (aD d f g&&aD a b c) g d c a=y at i ⊢;generalize crI (aD d f g&&aD a b c) d f a b=z at i ⊢;have m:=fun w=>zM x y z 0 0 0 w;cases n:eqB x y z 0 0 0
 ·rw[n]at m i;go_wp2;go_ret;exact⟨by rw[yx i];rfl,j⟩
 ·rw[n]at m i;go_wp2_with fail;refine(zI d f g a b c _).mono ?_;rintro e B ⟨rfl,k⟩;replace j:=ak j k;go_wp2;go_ret;exact⟨by rw[yx i,Bool.true_and];rfl,j⟩
theorem nD(d f g a b c:Int)(w:ω):
  χ prog 109 #[κ #[J Z d,J Z f,J Z g],κ #[J Z a,J Z b,J Z c]] w fun e v=>e=ρ (β (eqB (crW f g b c) (crW g d c a) (crW d f a b) 0 0 0&&decide (0<dx d f g a b c)))/\δ w.1.size w v:=by
 go_enter func109,ntmps109;go_wp2_with fail;refine(qw d f g a b c _).mono ?_;rintro e l ⟨rfl,h⟩;have i:δ w.1.size w l:=ak (aJ _ _ _) h;have t:aI l w.1.size d f g:=((aK w d f g _).alloc (by simp) _).kept (by simp;omega) h;have u:aI l (w.1.size+1) a b c:=(by simpa using aK (w.alloc _) a b c _:aI _ (w.1.size+1) a b c).kept (by simp) h;clear h;obtain⟨n,o,p⟩:=t;obtain⟨q,r,s⟩:=u;have m:=fun w=>zM (crW f g b c) (crW g d c a) (crW d f a b) 0 0 0 w;cases j:eqB (crW f g b c) (crW g d c a) (crW d f a b) 0 0 0
 ·rw[j]at m;go_wp2;go_ret;exact⟨by rw[j];rfl,i⟩
 ·rw[j]at m;go_wp2_with fail;refine(jg d f g a b c _).mono ?_;rintro e x ⟨rfl,k⟩;replace i:=ak i k;go_wp2;go_ret;exact⟨by rw[j,Bool.true_and];rfl,i⟩
section
theorem wN(x y z:Int)(w:ω):
  χ prog 228 #[κ #[J Z x,J Z y,J Z z]] w fun e c=>e=ρ (J Z (dx x y z x y z))/\δ w.1.size w c:=by
 go_enter func228,ntmps228;go_wp2_with fail;refine(sw x y z x y z _).mono ?_;rintro e d ⟨rfl,a⟩;have b:δ w.1.size w d:=ak (an _ _) a;go_wp2;go_ret;exact⟨rfl,b⟩
theorem km(x y z:Int)(w:ω):
  χ prog 117 #[κ #[J Z x,J Z y,J Z z]] w fun e k=>e=ρ (β (dA x y z))/\δ w.1.size w k:=by
 go_enter func117,ntmps117;go_wp2_with fail;refine(dS x y z _).mono ?_;rintro e f ⟨rfl,a⟩;have b:δ w.1.size w f:=ak (an _ _) a;have j:aI f w.1.size x y z:=(aK w x y z _).kept (by simp) a;clear a;obtain⟨g,h,i⟩:=j;cases d:aD x y z
 ·go_wp2;go_ret;exact⟨by simp[dA,d],b⟩
 ·go_wp2_with fail;refine(pS 1800 x y z _ (by omega) (by omega)).mono ?_;rintro e l ⟨rfl,c⟩;replace b:=ak b c;go_wp2;go_ret;exact⟨by simp[dA,d],b⟩
theorem it(x y z:Int)(w:ω):
  χ prog 182 #[κ #[J Z x,J Z y,J Z z]] w fun e k=>e=ρ (β (aX x y z))/\δ w.1.size w k:=by
 go_enter func182,ntmps182;go_wp2_with fail;refine(dS x y z _).mono ?_;rintro e f ⟨rfl,a⟩;have b:δ w.1.size w f:=ak (an _ _) a;have j:aI f w.1.size x y z:=(aK w x y z _).kept (by simp) a;clear a;obtain⟨g,h,i⟩:=j;cases d:aD x y z
 ·go_wp2;go_ret;exact⟨by simp[aX,d],b⟩
 ·go_wp2_with fail;refine(pS 10 x y z _ (by omega) (by omega)).mono ?_;rintro e l ⟨rfl,c⟩;replace b:=ak b c;go_wp2;go_ret;exact⟨by simp[aX,d],b⟩
theorem wF(n:Int)(w:ω):
  χ prog 226 #[J Z n] w fun e b=>e=ρ (J Z (tP n))/\b=w:=by
 by_cases h:n<0
 ·have a:=yz (show tP n=ύ (ύ (-n)*n) by unfold tP;rw[if_pos h]);go_enter func226,ntmps226;go_wp2;go_ret;exact⟨by rw[yx a];rfl,rfl⟩
 ·have a:=yz (show tP n=ύ (n*n) by unfold tP;rw[if_neg h]);go_enter func226,ntmps226;go_wp2;go_ret;exact⟨by rw[yx a];rfl,rfl⟩
theorem rS(a b:Int)(w:ω):
  χ prog 224 #[J Z a,J Z b] w fun e f=>e=ρ (J Z (jA a b))/\f=w:=by
 by_cases h:a<b
 ·have c:=yz (show jA a b = -1 by unfold jA;rw[if_pos h]);go_enter func224,ntmps224;go_wp2;go_ret;exact⟨by rw[yx c];rfl,rfl⟩
 ·by_cases d:b<a
  ·have c:=yz (show jA a b=1 by unfold jA;rw[if_neg h,if_pos d]);go_enter func224,ntmps224;go_wp2;go_ret;exact⟨by rw[yx c];rfl,rfl⟩
  ·have c:=yz (show jA a b=0 by unfold jA;rw[if_neg h,if_neg d]);go_enter func224,ntmps224;go_wp2;go_ret;exact⟨by rw[yx c];rfl,rfl⟩
theorem sS(a b c d f g:Int)(w:ω):
  χ prog 227 #[.func (.func 228) #[κ #[J Z a,J Z b,J Z c]] #[],.func (.func 228) #[κ #[J Z d,J Z f,J Z g]] #[]] w fun e j=>e=ρ (J Z (ύ (dx a b c a b c*dx d f g d f g)))/\δ w.1.size w j:=by
 go_enter func227,ntmps227;go_wp2_with fail;refine(wN a b c _).mono ?_;rintro e k ⟨rfl,h⟩;go_wp2_with fail;refine(wN d f g _).mono ?_;rintro e l ⟨rfl,i⟩;go_wp2;go_ret;exact⟨rfl,ak h i⟩
variable {x z:Int}
theorem iz{y:Int}(h:dA x y z=θ):aD x y z=θ/\aS 1800 x y z=θ:=by simpa[dA] using h
theorem gw{y:Int}(h:aX x y z=θ):aD x y z=θ/\aS 10 x y z=θ:=by simpa[aX] using h
theorem MG{a b c d e f g i j k l m:Int}(n:dA a b c=θ)(o:dA d e f=θ)(p:aX g i j=θ)(q:aX k l m=θ):
  rA a b c d e f g i j k l m=jA (ύ (tP (zH a b c d e f)*ύ (dx g i j g i j*dx k l m k l m))) (ύ (tP (zH g i j k l m)*ύ (dx a b c a b c*dx d e f d e f))):=by
 have h:=IT (iz n).2 (iz o).2 (gw p).2 (gw q).2;unfold rA zH;rw[(iz n).1,(iz o).1,(gw p).1,(gw q).1,n,o,p,q,if_pos (by rfl),if_pos (by rfl),if_pos (by rfl),h.1,h.2]
end
section
def lY(w:ω)(b o:Nat)(s:St):Prop:=w.cell? ⟨b,o,ν⟩=ς (J Z s.1)/\w.cell? ⟨b,o+1,ν⟩=ς (J Z s.2.1)/\w.cell? ⟨b,o+2,ν⟩=ς (J Z s.2.2.1)/\w.cell? ⟨b,o+3,ν⟩=ς (J Z s.2.2.2)
def aO(w:ω)(a:Option η)(L:List St)(n:Nat):Prop:=n=0\/∃b o,a=ς ⟨b,o,ν⟩/\b<w.1.size/\∀i,i<n->lY w b (o+i*4) (stA L i)
variable {b:Nat} {a:Option η} {w w':ω}
theorem lY.kept{o:Nat}{s:St}(h:lY w b o s)(c:b<w.1.size)(a:δ w.1.size w w'):lY w' b o s:=by
 obtain⟨d,e,f,g⟩:=h;exact⟨by rw[a.cell (p:=⟨b,o,ν⟩) c];exact d,by rw[a.cell (p:=⟨b,o+1,ν⟩) c];exact e,by rw[a.cell (p:=⟨b,o+2,ν⟩) c];exact f,by rw[a.cell (p:=⟨b,o+3,ν⟩) c];exact g⟩
theorem aO.kept{L:List St}{n:Nat}(h:aO w a L n)(c:δ w.1.size w w'):aO w' a L n:=by
 rcases h with h | ⟨b,o,e,d,f⟩
 ·exact .inl h
 ·exact .inr ⟨b,o,e,Nat.lt_of_lt_of_le d c.size,fun i g=>(f i g).kept d c⟩
theorem vlt{x y z:Int}(h:aI w b x y z):b<w.1.size:=World.block_lt_of_cell? w _ h.1
theorem aO.less{L:List St}{n m:Nat}(h:aO w a L n)(g:m<=n):aO w a L m:=by
 rcases h with h | ⟨b,o,c,d,e⟩
 ·exact .inl (by omega)
 ·exact .inr ⟨b,o,c,d,fun i f=>e i (by omega)⟩
theorem sO(L:List St)(n:Nat)(x y z:Int)(a:Option η)(c:Nat)(w:ω)(hn:n<=1048576)(R:aO w a L n):
  χ prog 184 #[κ #[J Z x,J Z y,J Z z],.slice a n c] w fun e X=>e=ρ (β (gy L (0,x,y,z) n))/\δ w.1.size w X:=by
 rcases R with rfl | ⟨b,o,rfl,S,E⟩
 ·go_enter func184,ntmps184;go_wp2;refine wp_loop_rounds 1 ?_;rw[rounds_succ];go_wp2;go_ret;exact⟨rfl,an _ _⟩
 ·have I:=yz E;clear E;have M:=yz (aK w x y z 93);have H:=yz (an w (ξ #[J Z x,J Z y,J Z z] 93));go_enter func184,ntmps184;go_wp2;go_loopw [9] (fun i wr=>∃k:Nat,k<=n/\i=J Z k/\Hid (rH L (0,x,y,z) k)/\Hid (δ w.1.size w wr)/\Hid (aI wr w.1.size x y z)) (fun i _=>n-(ώ i).toNat)
  case atStart=>exact⟨0,by omega,rfl,yz (fun j T=>absurd T (Nat.not_lt_zero _)),H,M⟩
  case round=>
   obtain⟨k,Y,rfl,D,d,u⟩:=hrel;by_cases g:k<n
   ·obtain⟨⟨G,m,p,q⟩,A⟩:∃s,stA L k=s:=⟨_,rfl⟩
    have l:=((yx I) k g).kept S (yx d);rw[A]at l;obtain⟨N,O,P,Q⟩:=l;have K:=yz A;clear A;have t:=yz (aI.alloc (yx u) (vlt (yx u)) (ξ #[J Z G,J Z m,J Z p,J Z q] 130));have C:=yz ((yx d).alloc (yx d).size (ξ #[J Z G,J Z m,J Z p,J Z q] 130));obtain⟨U,V,W⟩:=yx t;go_wp2_with fail;refine(kW x y z m p q _).mono ?_;rintro e w2 ⟨rfl,B⟩;have v:=yz ((yx t).kept (vlt (yx t)) B);have f:=aB C B;clear B N O P Q U V W t C d u;have r:Hid (sY (0,x,y,z) (stA L k)=fk x y z m p q):=yz (by rw[yx K];rfl);cases F:fk x y z m p q
    ·rw[F]at r;go_wp2;go_roundw
     case rel=>exact⟨k+1,by omega,by go_num,yz (yp (yx D) (yx r)),f,v⟩
     case measure=>simp[ώ];omega
    ·rw[F]at r;go_wp2;go_ret;exact⟨by rw[zg g (yx r)];rfl,yx f⟩
   ·have h:k=n:=by omega
    subst h;go_wp2;go_ret;exact⟨by rw[wR (yx D)];rfl,yx d⟩
end
section
def KZ:ByteArray:=⟨#[97,110,32,73,100,32,105,115,32,110,111,116,32,49,32,116,111,32,57,57,57,57]⟩
def Mz:ByteArray:=⟨#[116,104,101,32,73,100,115,32,97,114,101,32,110,111,116,32,114,105,115,105,110,103]⟩
def DE:ByteArray:=⟨#[97,32,115,116,97,114,32,105,115,32,97,116,32,110,111,32,115,109,97,108,108,32,100,105,114,101,99,116,105,111,110,32,116,104,97,116,32,105,115,32,105,116,115,32,111,119,110,32,112,114,105,109,101]⟩
def Fl:ByteArray:=⟨#[116,119,111,32,115,116,97,114,115,32,97,114,101,32,116,104,101,32,115,97,109,101,32,119,97,121]⟩
def Gr:ByteArray:=⟨#[116,104,101,114,101,32,97,114,101,32,116,111,111,32,109,97,110,121,32,115,116,97,114,115]⟩
def fS(why:ByteArray):μ:=.iface 201 (κ #[.string why])
def iX(L:List St)(i:Nat):μ:=
 if idB (stA L i).1=φ then fS KZ else if upB L i=φ then fS Mz
 else if (aX (stA L i).2.1 (stA L i).2.2.1 (stA L i).2.2.2&&gN (stA L i).2.1 (stA L i).2.2.1 (stA L i).2.2.2)=φ then fS DE
 else if gy L (stA L i) i=θ then fS Fl else .nilIface
variable {i:Nat}
theorem Mf{L:List St}(h:gB L i=θ):iX L i=.nilIface:=by
 unfold gB at h;simp only[Ϗ,Bool.not_eq_true']at h;obtain⟨⟨⟨a,b⟩,c,d⟩,e⟩:=h;unfold iX;simp[a,b,c,d,e]
theorem Gs{L:List St}(h:gB L i=φ):∃a,iX L i=fS a:=by
 unfold iX;split
 ·exact⟨_,rfl⟩
 ·split
  ·exact⟨_,rfl⟩
  ·split
   ·exact⟨_,rfl⟩
   ·split
    ·exact⟨_,rfl⟩
    ·rename_i b c d e
     exfalso;simp only[Bool.not_eq_false,Bool.not_eq_true]at b c d e;unfold gB at h;rw[b,c,d,e]at h;simp at h
theorem ji(w:ω)(s:St)(t:TypeId):lY (w.alloc (ξ #[J Z s.1,J Z s.2.1,J Z s.2.2.1,J Z s.2.2.2] t)) w.1.size 0 s:=by
 refine⟨?_,?_,?_,?_⟩<;>simp
theorem xQ(L:List St)(i:Nat)(F d f g:Int)(a:Option η)(c:Nat)(w:ω)(hi:i<=1048576)(hs:stA L i=(F,d,f,g))(hS:aO w a L i):
  χ prog 160 #[κ #[J Z F,J Z d,J Z f,J Z g],.slice a i c] w fun e E=>e=ρ (iX L i)/\δ w.1.size w E:=by
 have y:=yz hs;clear hs;have X:=yz hS;clear hS;have N:=yz (an w (ξ #[J Z F,J Z d,J Z f,J Z g] 130));have Y:=yz (ji w (F,d,f,g) 130);by_cases h1:F<1
 ·have n:Hid (iX L i=fS KZ):=yz (by unfold iX;rw[if_pos (by rw[yx y];unfold idB;simp;omega)]);go_enter func160,ntmps160;go_wp2;go_ret;exact⟨by rw[yx n];rfl,yx N⟩
 by_cases h2:9999<F
 ·have n:Hid (iX L i=fS KZ):=yz (by unfold iX;rw[if_pos (by rw[yx y];unfold idB;simp;omega)]);go_enter func160,ntmps160;go_wp2;go_ret;exact⟨by rw[yx n];rfl,yx N⟩
 have O:Hid (¬idB (stA L i).1=φ):=yz (by rw[yx y];unfold idB;simp;omega);by_cases D:upB L i=φ
 ·have n:Hid (iX L i=fS Mz):=yz (by unfold iX;rw[if_neg (yx O),if_pos D]);obtain⟨j,rfl⟩:∃j,i=j+1:=⟨i-1,by unfold upB at D;simp at D;omega⟩
  obtain⟨⟨p1,p2,p3,p4⟩,R⟩:∃s,stA L j=s:=⟨_,rfl⟩
  have ac:F<=p1:=by unfold upB at D;rw[yx y]at D;simp[R]at D;omega
  rcases yx X with h0 | ⟨b,o,rfl,hb,T⟩
  ·omega
  have K:=(T j (by omega)).kept hb (yx N);rw[R]at K;obtain⟨c0,_,_,_⟩:=K;have aa:(j:Int)+1-1=(j:Int):=by omega
  have ab:(0:Int)<(j:Int)+1:=by omega
  clear D R T;go_enter func160,ntmps160;go_wp2_with fail;go_quiet (fail)
  go_wp2;go_ret;exact⟨by rw[yx n];rfl,ak (yx N) (ek _ _)⟩
 have P:=yz D;clear D;rcases Nat.eq_zero_or_pos i with U | U
 ·subst U;go_enter func160,ntmps160;go_wp2_with fail;go_quiet (fail)
  go_wp2_with fail;have k:=ak (yx N) (ek (w.alloc (ξ #[J Z F,J Z d,J Z f,J Z g] 130)) nq);have v:=(yx Y).kept (by simp) (ek _ nq);generalize (w.alloc (ξ #[J Z F,J Z d,J Z f,J Z g] 130)).drewN nq=Q at k v ⊢;have p:=yz k;have q:=yz v;clear k v N Y;obtain⟨_,z,A,B⟩:=yx q;simp only[Nat.zero_add]at z A B;have r1:=ϊ z;have r2:=ϊ A;have r3:=ϊ B;clear z A B;cases l:aX d f g
  ·have n:Hid (iX L 0=fS DE):=yz (by unfold iX;rw[if_neg (yx O),if_neg (yx P),if_pos (by rw[yx y];simp[l])]);have G:Hid (∀W:ω,χ prog 182 #[κ #[J Z d,J Z f,J Z g]] W fun e E=>e=ρ (β φ)/\δ W.1.size W E):=yz (fun W=>(it d f g W).mono fun e E h=>⟨by rw[h.1,l],h.2⟩);clear l;refine de ?_;repeat (quiet_step (with_reducible first | exact aH G))
   refine di fun C m=>?_;have k:=ak (yx p) (ό Q C m);go_wp2;go_ret;exact⟨by rw[yx n];rfl,k⟩
  ·have G:Hid (∀W:ω,χ prog 182 #[κ #[J Z d,J Z f,J Z g]] W fun e E=>e=ρ (β θ)/\δ W.1.size W E):=yz (fun W=>(it d f g W).mono fun e E h=>⟨by rw[h.1,l],h.2⟩);have cP:=yz (fun W=>rV d f g W);have x:=fun W=>mB d f g (prI (aD d f g) (gI d f g) d) (prI (aD d f g) (gI d f g) f) (prI (aD d f g) (gI d f g) g) W;have I:eqB d f g (prI (aD d f g) (gI d f g) d) (prI (aD d f g) (gI d f g) f) (prI (aD d f g) (gI d f g) g)=gN d f g:=rfl;rw[I]at x;clear I;generalize prI (aD d f g) (gI d f g) d=t2 at cP x;generalize prI (aD d f g) (gI d f g) f=t3 at cP x;generalize prI (aD d f g) (gI d f g) g=t4 at cP x;cases r:gN d f g
   ·have n:Hid (iX L 0=fS DE):=yz (by unfold iX;rw[if_neg (yx O),if_neg (yx P),if_pos (by rw[yx y];simp[r])]);rw[r]at x;refine de ?_;repeat (quiet_step (with_reducible first | exact aH G | exact aH cP))
    refine di fun C m=>?_;have k:=ό Q C m;replace k:=ak (yx p) k;go_wp2;go_ret;exact⟨by rw[yx n];rfl,k⟩
   ·have S:Hid (¬(aX (stA L 0).2.1 (stA L 0).2.2.1 (stA L 0).2.2.2&&gN (stA L 0).2.1 (stA L 0).2.2.1 (stA L 0).2.2.2)=φ):=yz (by rw[yx y];simp[l,r]);clear l;rw[r]at x;refine de ?_;repeat (quiet_step (with_reducible first | exact aH G | exact aH cP))
    refine di fun C m=>?_;have k:=ό Q C m;have H:=(yx q).kept (World.block_lt_of_cell? _ _ (yx q).1) k;have u:=ak (yx p) k;generalize grow (redrawn Q C) m=W2 at k H u ⊢;have t:=yz u;clear k u r1 r2 r3 x G cP q p;obtain⟨_,z,A,B⟩:=H;simp only[Nat.zero_add]at z A B;go_wp2_with fail;refine(sO L 0 d f g _ _ _ hi ((yx X).kept (yx t))).mono ?_;rintro e w3 ⟨rfl,k⟩;replace k:=ak (yx t) k;clear t z A B;have V:gy L (0,d,f,g) 0=gy L (stA L 0) 0:=by rw[yx y];rfl
    rw[V];clear V;cases M:gy L (stA L 0) 0
    ·have n:Hid (iX L 0=.nilIface):=yz (by unfold iX;rw[if_neg (yx O),if_neg (yx P),if_neg (yx S),if_neg (by rw[M];simp)]);go_wp2;go_ret;exact⟨by rw[yx n];rfl,k⟩
    ·have n:Hid (iX L 0=fS Fl):=yz (by unfold iX;rw[if_neg (yx O),if_neg (yx P),if_neg (yx S),if_pos M]);go_wp2;go_ret;exact⟨by rw[yx n];rfl,k⟩
 ·obtain⟨j,rfl⟩:∃j,i=j+1:=⟨i-1,by omega⟩
  obtain⟨⟨p1,p2,p3,p4⟩,R⟩:∃s,stA L j=s:=⟨_,rfl⟩
  have ac:p1<F:=by have D:=yx P;unfold upB at D;rw[yx y]at D;simp[R]at D;omega
  rcases yx X with h0 | ⟨b,o,rfl,hb,T⟩
  ·omega
  have K:=(T j (by omega)).kept hb (yx N);rw[R]at K;obtain⟨c0,_,_,_⟩:=K;have aa:(j:Int)+1-1=(j:Int):=by omega
  have ab:(0:Int)<(j:Int)+1:=by omega
  clear R T;go_enter func160,ntmps160;go_wp2_with fail;go_quiet (fail)
  go_wp2_with fail;clear c0;have k:=ak (yx N) (ek (w.alloc (ξ #[J Z F,J Z d,J Z f,J Z g] 130)) nq);have v:=(yx Y).kept (by simp) (ek _ nq);generalize (w.alloc (ξ #[J Z F,J Z d,J Z f,J Z g] 130)).drewN nq=Q at k v ⊢;have p:=yz k;have q:=yz v;clear k v N Y;obtain⟨_,z,A,B⟩:=yx q;simp only[Nat.zero_add]at z A B;have r1:=ϊ z;have r2:=ϊ A;have r3:=ϊ B;clear z A B;cases l:aX d f g
  ·have n:Hid (iX L (j+1)=fS DE):=yz (by unfold iX;rw[if_neg (yx O),if_neg (yx P),if_pos (by rw[yx y];simp[l])]);have G:Hid (∀W:ω,χ prog 182 #[κ #[J Z d,J Z f,J Z g]] W fun e E=>e=ρ (β φ)/\δ W.1.size W E):=yz (fun W=>(it d f g W).mono fun e E h=>⟨by rw[h.1,l],h.2⟩);clear l;refine de ?_;repeat (quiet_step (with_reducible first | exact aH G))
   refine di fun C m=>?_;have k:=ak (yx p) (ό Q C m);go_wp2;go_ret;exact⟨by rw[yx n];rfl,k⟩
  ·have G:Hid (∀W:ω,χ prog 182 #[κ #[J Z d,J Z f,J Z g]] W fun e E=>e=ρ (β θ)/\δ W.1.size W E):=yz (fun W=>(it d f g W).mono fun e E h=>⟨by rw[h.1,l],h.2⟩);have cP:=yz (fun W=>rV d f g W);have x:=fun W=>mB d f g (prI (aD d f g) (gI d f g) d) (prI (aD d f g) (gI d f g) f) (prI (aD d f g) (gI d f g) g) W;have I:eqB d f g (prI (aD d f g) (gI d f g) d) (prI (aD d f g) (gI d f g) f) (prI (aD d f g) (gI d f g) g)=gN d f g:=rfl;rw[I]at x;clear I;generalize prI (aD d f g) (gI d f g) d=t2 at cP x;generalize prI (aD d f g) (gI d f g) f=t3 at cP x;generalize prI (aD d f g) (gI d f g) g=t4 at cP x;cases r:gN d f g
   ·have n:Hid (iX L (j+1)=fS DE):=yz (by unfold iX;rw[if_neg (yx O),if_neg (yx P),if_pos (by rw[yx y];simp[r])]);rw[r]at x;refine de ?_;repeat (quiet_step (with_reducible first | exact aH G | exact aH cP))
    refine di fun C m=>?_;have k:=ό Q C m;replace k:=ak (yx p) k;go_wp2;go_ret;exact⟨by rw[yx n];rfl,k⟩
   ·have S:Hid (¬(aX (stA L (j+1)).2.1 (stA L (j+1)).2.2.1 (stA L (j+1)).2.2.2&&gN (stA L (j+1)).2.1 (stA L (j+1)).2.2.1 (stA L (j+1)).2.2.2)=φ):=yz (by rw[yx y];simp[l,r]);clear l;rw[r]at x;refine de ?_;repeat (quiet_step (with_reducible first | exact aH G | exact aH cP))
    refine di fun C m=>?_;have k:=ό Q C m;have H:=(yx q).kept (World.block_lt_of_cell? _ _ (yx q).1) k;have u:=ak (yx p) k;generalize grow (redrawn Q C) m=W2 at k H u ⊢;have t:=yz u;clear k u r1 r2 r3 x G cP q p;obtain⟨_,z,A,B⟩:=H;simp only[Nat.zero_add]at z A B;go_wp2_with fail;refine(sO L (j+1) d f g _ _ _ hi ((yx X).kept (yx t))).mono ?_;rintro e w3 ⟨rfl,k⟩;replace k:=ak (yx t) k;clear t z A B;have V:gy L (0,d,f,g) (j+1)=gy L (stA L (j+1)) (j+1):=by rw[yx y];rfl
    rw[V];clear V;cases M:gy L (stA L (j+1)) (j+1)
    ·have n:Hid (iX L (j+1)=.nilIface):=yz (by unfold iX;rw[if_neg (yx O),if_neg (yx P),if_neg (yx S),if_neg (by rw[M];simp)]);go_wp2;go_ret;exact⟨by rw[yx n];rfl,k⟩
    ·have n:Hid (iX L (j+1)=fS Fl):=yz (by unfold iX;rw[if_neg (yx O),if_neg (yx P),if_neg (yx S),if_pos M]);go_wp2;go_ret;exact⟨by rw[yx n];rfl,k⟩
end
section
def gF(w:ω)(t:TypeId)(g m:Nat)(f:Nat->Int):Prop:=∃cur:Array μ,w.heap[g]? = ς (ξ cur t (0,0))/\∀j,j<m->cur[j]? = ς (J Z (f j))
variable {g m:Nat} {t:TypeId} {w w' w1:ω}
theorem gF.lt{f:Nat->Int}(h:gF w t g m f):g<w.1.size:=by
 obtain⟨a,b,_⟩:=h;exact(Array.getElem?_eq_some_iff.1 b).1
theorem gF.same{f:Nat->Int}(h:gF w t g m f)(e:w'.heap[g]? = w.heap[g]?):gF w' t g m f:=by
 obtain⟨a,b,c⟩:=h;exact⟨a,by rw[e];exact b,c⟩
theorem gF.kept{f:Nat->Int}(h:gF w t g m f)(a:δ w.1.size w w'):gF w' t g m f:=h.same (a.block g h.lt)
theorem gF.congr{f b:Nat->Int}(h:gF w t g m f)(e:∀j,j<m->f j=b j):gF w t g m b:=by
 obtain⟨a,d,i⟩:=h;exact⟨a,d,fun j c=>by rw[i j c,e j c]⟩
theorem gF.cell{j:Nat}{f:Nat->Int}(h:gF w t g m f)(c:j<m):w.cell? ⟨g,j,ν⟩=ς (J Z (f j)):=by
 obtain⟨a,b,d⟩:=h;rw[cell_of_row w g j a t _ b];exact d j c
theorem gF.free{f:Nat->Int}(h:gF w t g m f)(j:Nat):w.frozen? ⟨g,j,ν⟩=φ:=by
 obtain⟨a,b,_⟩:=h;exact frozen_of_row w g j a t b
theorem gF.set{f:Nat->Int}(h:gF w t g m f)(i:Nat)(v:Int):gF (w.setCell ⟨g,i,ν⟩ (J Z v)) t g m (fun j=>if j=i then v else f j):=by
 obtain⟨a,c,k⟩:=h;refine⟨_,heap_setCell_same w g i a t (J Z v) c,fun j d=>?_⟩;have:=k j d;rw[Array.getElem?_setIfInBounds];by_cases e:i=j
 ·subst e;simp[(Array.getElem?_eq_some_iff.1 this).1]
 ·have b:¬j=i:=fun h=>e (Eq.symm h);simp[e,b,this]
theorem jX(w:ω)(row:Option Nat):w.grownBy w row:=⟨rfl,rfl,rfl,Nat.le_refl _,fun _ _ _=>rfl⟩
theorem fN(h:w.grownBy w1 (ς g))(i:Nat)(v:μ):w.grownBy (w1.setCell ⟨g,i,ν⟩ v) (ς g):=
 ⟨h.os,h.tape,h.output,by simpa[World.setCell] using h.size,fun k b a=>by rw[Below.heap_setCell _ _ _ _ (fun e=>a (by rw[e]))];exact h.block k b a⟩
theorem zT{b:Nat}(h:δ w.1.size w w1):w.grownBy w1 (ς b):=⟨h.os,h.tape,h.output,h.size,fun k a _=>h.block k a⟩
theorem ud{a b c:ω}{d:Option Nat}(h:a.grownBy b d)(k:b.grownBy c d):a.grownBy c d:=
 ⟨k.os.trans h.os,k.tape.trans h.tape,k.output.trans h.output,Nat.le_trans h.size k.size,fun i e f=>(k.block i (Nat.lt_of_lt_of_le e h.size) f).trans (h.block i e f)⟩
end
theorem Jm:∃i:TypeInfo,prog.info? 5=ς i/\i.zero=ς (.int .u8 0)/\i.size=1/\i.bytes=1:=by
 refine⟨_,rfl,?_,?_,?_⟩<;>kernel_rfl
theorem Am(n:Nat)(h:n<=281474976710656):∃M:Array μ,M.size=n/\∀W:ω,(Instr.makeSlice 22 (J Z (n:Int)) (J Z (n:Int))).run prog W=.ok (.slice (ς ⟨W.1.size,0,ν⟩) n n) (W.alloc (ξ M 5)):=by
 obtain⟨d,e,a,b,c⟩:=Jm;refine⟨madeCells (Value.int .u8 0).cells (((n:Nat):Int).toNat*d.size),by rw[size_madeCells,b];simp,fun W=>?_⟩;have h:=run_make (P:=prog) W 22 5 d (.int .u8 0) underlying22 e a .i64 .i64 (n:Int) (n:Int) (by omega) (by omega) (by rw[c];omega) (by omega);simpa using h
theorem jL(w:ω)(M Y:Array μ)(T:TypeId):(w.alloc (ξ M T)).setRow w.1.size Y=w.alloc (ξ Y T):=by
 unfold World.setRow World.alloc;congr 1
 apply Array.ext
 ·simp
 ·intro i c a;have d:i<w.1.size+1:=by simpa using a
  simp only[Array.getElem_modify,Array.getElem_push];by_cases e:i=w.1.size
  ·subst e;simp
  ·have b:i<w.1.size:=by omega
   simp[Ne.symm e,b]
theorem od(w:ω)(T:TypeId)(Y:Array μ)(s:ByteArray)(b:Y.toList=Lib.byteCells s.data.toList)(a:Nat):
  (convert 22 9 (.slice (ς ⟨w.1.size,0,ν⟩) s.size a)).run prog (w.alloc (ξ Y T))=.ok (.string s) (w.alloc (ξ Y T)):=by
 refine Lib.run_convert_whole (P:=prog) _ 22 5 9 underlying22 underlying5 underlying9 w.1.size 0 s ?_ a;intro i c
 have d:Y[i]? = ς (.int .u8 (s[i].toNat:Int)):=by
  rw[<-Array.getElem?_toList,b,Lib.byteCells,List.getElem?_map];have:s.data.toList[i]? = ς s[i]:=by rw[Array.getElem?_toList];exact Array.getElem?_eq_getElem c
  rw[this];rfl
 simp[d]
theorem append_empty(a:ByteArray):a ++ ByteArray.empty=a:=by
 apply ByteArray.ext;simp
end Go.Proofs.YtnnhjegapofopaaGreatDoor
