/- Several texts in one: TurnMath2, TurnA, TurnB, TurnC, TurnF, SeenA, SkyI, PairA, Place, PairB, PairC, PairD, PairE, PairF, PairM, PairN, MarkS, BlA, SpB, ObM. -/
import Derived.Deep.DeepCutAuto
import Derived.Test.YtdchjcadhlkpfaaGreatDoorD3
namespace Go.Proofs.YtdchjcadhlkpfaaGreatDoor
set_option linter.unusedVariables false
set_option linter.unusedSimpArgs false
set_option maxRecDepth 100000
set_option maxHeartbeats 8000000
section
open Go.RowKit
variable {s1 s2 s3 s4 t1 t2 t3 t4 x y z:Int}
theorem Fm{a b c d:Int}(ht:inT 5 a b c d=true)(hv:aR 1800 x y z=true):
  wrap64 (wrap64 (wrap64 (wrap64 (wrap64 (wrap64 (wrap64 (a*a)+wrap64 (b*b))-wrap64 (c*c))-wrap64 (d*d))*x)+wrap64 (wrap64 (2*wrap64 (wrap64 (b*c)-wrap64 (a*d)))*y))+wrap64 (wrap64 (2*wrap64 (wrap64 (b*d)+wrap64 (a*c)))*z))=apX a b c d x y z:=by
 obtain⟨ha,hb,hc,hd⟩:=bU.1 ht;have h1:=bR ha ha;have h2:=bR hb hb;have h3:=bR hc hc;have h4:=bR hd hd;have h5:=bR hb hc;have h6:=bR ha hd;have h7:=bR hb hd;have h8:=bR ha hc
 rw[au (n:=a*a) (by omega) (by omega),au (n:=b*b) (by omega) (by omega),au (n:=c*c) (by omega) (by omega),au (n:=d*d) (by omega) (by omega),au (n:=b*c) (by omega) (by omega),au (n:=a*d) (by omega) (by omega),au (n:=b*d) (by omega) (by omega),au (n:=a*c) (by omega) (by omega),
  au (n:=a*a+b*b) (by omega) (by omega),au (n:=a*a+b*b-c*c) (by omega) (by omega),au (n:=a*a+b*b-c*c-d*d) (by omega) (by omega),au (n:=b*c-a*d) (by omega) (by omega),au (n:=b*d+a*c) (by omega) (by omega),au (n:=2*(b*c-a*d)) (by omega) (by omega),au (n:=2*(b*d+a*c)) (by omega) (by omega)]
 exact dU (A:=100) (B:=1800) (aW.2 ⟨by omega,by omega,by omega⟩) hv (by omega)
theorem Fn{a b c d:Int}(ht:inT 5 a b c d=true)(hv:aR 1800 x y z=true):
  wrap64 (wrap64 (wrap64 (wrap64 (2*wrap64 (wrap64 (b*c)+wrap64 (a*d)))*x)+wrap64 (wrap64 (wrap64 (wrap64 (wrap64 (a*a)-wrap64 (b*b))+wrap64 (c*c))-wrap64 (d*d))*y))+wrap64 (wrap64 (2*wrap64 (wrap64 (c*d)-wrap64 (a*b)))*z))=apY a b c d x y z:=by
 obtain⟨ha,hb,hc,hd⟩:=bU.1 ht;have h1:=bR ha ha;have h2:=bR hb hb;have h3:=bR hc hc;have h4:=bR hd hd;have h5:=bR hb hc;have h6:=bR ha hd;have h7:=bR hc hd;have h8:=bR ha hb
 rw[au (n:=a*a) (by omega) (by omega),au (n:=b*b) (by omega) (by omega),au (n:=c*c) (by omega) (by omega),au (n:=d*d) (by omega) (by omega),au (n:=b*c) (by omega) (by omega),au (n:=a*d) (by omega) (by omega),au (n:=c*d) (by omega) (by omega),au (n:=a*b) (by omega) (by omega),
  au (n:=a*a-b*b) (by omega) (by omega),au (n:=a*a-b*b+c*c) (by omega) (by omega),au (n:=a*a-b*b+c*c-d*d) (by omega) (by omega),au (n:=b*c+a*d) (by omega) (by omega),au (n:=c*d-a*b) (by omega) (by omega),au (n:=2*(b*c+a*d)) (by omega) (by omega),au (n:=2*(c*d-a*b)) (by omega) (by omega)]
 exact dU (A:=100) (B:=1800) (aW.2 ⟨by omega,by omega,by omega⟩) hv (by omega)
theorem Fo{a b c d:Int}(ht:inT 5 a b c d=true)(hv:aR 1800 x y z=true):
  wrap64 (wrap64 (wrap64 (wrap64 (2*wrap64 (wrap64 (b*d)-wrap64 (a*c)))*x)+wrap64 (wrap64 (2*wrap64 (wrap64 (c*d)+wrap64 (a*b)))*y))+wrap64 (wrap64 (wrap64 (wrap64 (wrap64 (a*a)-wrap64 (b*b))-wrap64 (c*c))+wrap64 (d*d))*z))=apZ a b c d x y z:=by
 obtain⟨ha,hb,hc,hd⟩:=bU.1 ht;have h1:=bR ha ha;have h2:=bR hb hb;have h3:=bR hc hc;have h4:=bR hd hd;have h5:=bR hb hd;have h6:=bR ha hc;have h7:=bR hc hd;have h8:=bR ha hb
 rw[au (n:=a*a) (by omega) (by omega),au (n:=b*b) (by omega) (by omega),au (n:=c*c) (by omega) (by omega),au (n:=d*d) (by omega) (by omega),au (n:=b*d) (by omega) (by omega),au (n:=a*c) (by omega) (by omega),au (n:=c*d) (by omega) (by omega),au (n:=a*b) (by omega) (by omega),
  au (n:=a*a-b*b) (by omega) (by omega),au (n:=a*a-b*b-c*c) (by omega) (by omega),au (n:=a*a-b*b-c*c+d*d) (by omega) (by omega),au (n:=b*d-a*c) (by omega) (by omega),au (n:=c*d+a*b) (by omega) (by omega),au (n:=2*(b*d-a*c)) (by omega) (by omega),au (n:=2*(c*d+a*b)) (by omega) (by omega)]
 exact dU (A:=100) (B:=1800) (aW.2 ⟨by omega,by omega,by omega⟩) hv (by omega)
theorem Fq(hs:inT 5 s1 s2 s3 s4=true)(ht:inT 5 t1 t2 t3 t4=true):
  wrap64 (wrap64 (wrap64 (wrap64 (s1*t1)-wrap64 (s2*t2))-wrap64 (s3*t3))-wrap64 (s4*t4))=coA s1 s2 s3 s4 t1 t2 t3 t4∧-100≤coA s1 s2 s3 s4 t1 t2 t3 t4∧coA s1 s2 s3 s4 t1 t2 t3 t4≤100:=by
 obtain⟨ha,hb,hc,hd⟩:=bU.1 hs;obtain⟨ka,kb,kc,kd⟩:=bU.1 ht;have h1:=bR ha ka;have h2:=bR hb kb;have h3:=bR hc kc;have h4:=bR hd kd;unfold coA;rw[au (n:=s1*t1) (by omega) (by omega),au (n:=s2*t2) (by omega) (by omega),au (n:=s3*t3) (by omega) (by omega),au (n:=s4*t4) (by omega) (by omega),au (n:=s1*t1-s2*t2) (by omega) (by omega),au (n:=s1*t1-s2*t2-s3*t3) (by omega) (by omega),au (by omega) (by omega)];omega
theorem Fs(hs:inT 5 s1 s2 s3 s4=true)(ht:inT 5 t1 t2 t3 t4=true):
  wrap64 (wrap64 (wrap64 (wrap64 (s1*t2)+wrap64 (s2*t1))+wrap64 (s3*t4))-wrap64 (s4*t3))=coB s1 s2 s3 s4 t1 t2 t3 t4∧-100≤coB s1 s2 s3 s4 t1 t2 t3 t4∧coB s1 s2 s3 s4 t1 t2 t3 t4≤100:=by
 obtain⟨ha,hb,hc,hd⟩:=bU.1 hs;obtain⟨ka,kb,kc,kd⟩:=bU.1 ht;have h1:=bR ha kb;have h2:=bR hb ka;have h3:=bR hc kd;have h4:=bR hd kc;unfold coB;rw[au (n:=s1*t2) (by omega) (by omega),au (n:=s2*t1) (by omega) (by omega),au (n:=s3*t4) (by omega) (by omega),au (n:=s4*t3) (by omega) (by omega),au (n:=s1*t2+s2*t1) (by omega) (by omega),au (n:=s1*t2+s2*t1+s3*t4) (by omega) (by omega),au (by omega) (by omega)];omega
theorem Ft(hs:inT 5 s1 s2 s3 s4=true)(ht:inT 5 t1 t2 t3 t4=true):
  wrap64 (wrap64 (wrap64 (wrap64 (s1*t3)-wrap64 (s2*t4))+wrap64 (s3*t1))+wrap64 (s4*t2))=coC s1 s2 s3 s4 t1 t2 t3 t4∧-100≤coC s1 s2 s3 s4 t1 t2 t3 t4∧coC s1 s2 s3 s4 t1 t2 t3 t4≤100:=by
 obtain⟨ha,hb,hc,hd⟩:=bU.1 hs;obtain⟨ka,kb,kc,kd⟩:=bU.1 ht;have h1:=bR ha kc;have h2:=bR hb kd;have h3:=bR hc ka;have h4:=bR hd kb;unfold coC;rw[au (n:=s1*t3) (by omega) (by omega),au (n:=s2*t4) (by omega) (by omega),au (n:=s3*t1) (by omega) (by omega),au (n:=s4*t2) (by omega) (by omega),au (n:=s1*t3-s2*t4) (by omega) (by omega),au (n:=s1*t3-s2*t4+s3*t1) (by omega) (by omega),au (by omega) (by omega)];omega
theorem Fu(hs:inT 5 s1 s2 s3 s4=true)(ht:inT 5 t1 t2 t3 t4=true):
  wrap64 (wrap64 (wrap64 (wrap64 (s1*t4)+wrap64 (s2*t3))-wrap64 (s3*t2))+wrap64 (s4*t1))=coD s1 s2 s3 s4 t1 t2 t3 t4∧-100≤coD s1 s2 s3 s4 t1 t2 t3 t4∧coD s1 s2 s3 s4 t1 t2 t3 t4≤100:=by
 obtain⟨ha,hb,hc,hd⟩:=bU.1 hs;obtain⟨ka,kb,kc,kd⟩:=bU.1 ht;have h1:=bR ha kd;have h2:=bR hb kc;have h3:=bR hc kb;have h4:=bR hd ka;unfold coD;rw[au (n:=s1*t4) (by omega) (by omega),au (n:=s2*t3) (by omega) (by omega),au (n:=s3*t2) (by omega) (by omega),au (n:=s4*t1) (by omega) (by omega),au (n:=s1*t4+s2*t3) (by omega) (by omega),au (n:=s1*t4+s2*t3-s3*t2) (by omega) (by omega),au (by omega) (by omega)];omega
def apR(a b c d x y z:Int):Bool:=aD a b c d&&dy x y z
def apI(r:Bool)(v:Int):Int:=if r then v else 0
def coR(s1 s2 s3 s4 t1 t2 t3 t4:Int):Bool:=aD s1 s2 s3 s4&&aD t1 t2 t3 t4
def coK(s1 s2 s3 s4 t1 t2 t3 t4:Int):Int:=
 if coR s1 s2 s3 s4 t1 t2 t3 t4 then ofC (coA s1 s2 s3 s4 t1 t2 t3 t4) (coB s1 s2 s3 s4 t1 t2 t3 t4) (coC s1 s2 s3 s4 t1 t2 t3 t4) (coD s1 s2 s3 s4 t1 t2 t3 t4) else 1
def coP(s1 s2 s3 s4 t1 t2 t3 t4 v:Int):Int:=
 if coR s1 s2 s3 s4 t1 t2 t3 t4 then ofP (coA s1 s2 s3 s4 t1 t2 t3 t4) (coB s1 s2 s3 s4 t1 t2 t3 t4) (coC s1 s2 s3 s4 t1 t2 t3 t4) (coD s1 s2 s3 s4 t1 t2 t3 t4) v else 0
theorem Cm{m:Int}(hm:0≤m)(h:x*x≤m*m):-m≤x∧x≤m:=by
 have h1:x.natAbs*x.natAbs≤m.natAbs*m.natAbs:=by
  have e1:=Int.natAbs_mul_self' x;have e2:=Int.natAbs_mul_self' m;omega
 have:=Nat.mul_self_le_mul_self_iff.1 h1;omega
theorem wg{a b c d D M:Int}(ht:aD a b c d=true)(hD:dot x y z x y z≤D)(hM:0≤M)(h:10000*D≤M*M):aR M (apX a b c d x y z) (apY a b c d x y z) (apZ a b c d x y z)=true:=by
 have hn:=Gw (bg.1 ht).1;have hp:=zg (lC ht);have hn2:=bR (A:=100) (B:=100) (a:=nT a b c d) (b:=nT a b c d) (by omega) (by omega);have hd:=ql a b c d x y z x y z;have h0:0≤dot x y z x y z:=by have h1:=sqn x;have h2:=sqn y;have h3:=sqn z;unfold dot;omega
 have hm:=bR (A:=10000) (B:=D) (a:=nT a b c d*nT a b c d) (b:=dot x y z x y z) (by omega) (by omega);have s1:=sqn (apX a b c d x y z);have s2:=sqn (apY a b c d x y z);have s3:=sqn (apZ a b c d x y z);have hdd:dot (apX a b c d x y z) (apY a b c d x y z) (apZ a b c d x y z) (apX a b c d x y z) (apY a b c d x y z) (apZ a b c d x y z)=apX a b c d x y z*apX a b c d x y z+apY a b c d x y z*apY a b c d x y z+apZ a b c d x y z*apZ a b c d x y z:=rfl;rw[aW];exact⟨Cm hM (by omega),Cm hM (by omega),Cm hM (by omega)⟩
theorem Gr{a b c d:Int}(ht:aD a b c d=true)(hz:¬(x=0∧y=0∧z=0)):¬(apX a b c d x y z=0∧apY a b c d x y z=0∧apZ a b c d x y z=0):=by
 rintro ⟨h1,h2,h3⟩;have hp:=zg (lC ht);have hd:=ql a b c d x y z x y z;rw[h1,h2,h3]at hd;have:=Int.mul_pos (Int.mul_pos hp hp) (oS hz);rw[←hd]at this;exact absurd this (by decide)
end
section
open Go.Value renaming int → J
open Go.IntKind renaming i64 → Z
open Go.RowKit
def aJ(w:World)(b:Nat)(p q r s:Int):Prop:=w.cell? ⟨b,0,none⟩=some (J Z p)∧w.cell? ⟨b,1,none⟩=some (J Z q)∧w.cell? ⟨b,2,none⟩=some (J Z r)∧w.cell? ⟨b,3,none⟩=some (J Z s)
def dx(w:World)(b:Nat):Prop:=w.frozen? ⟨b,0,none⟩=false∧w.frozen? ⟨b,1,none⟩=false∧w.frozen? ⟨b,2,none⟩=false∧w.frozen? ⟨b,3,none⟩=false
variable {p q r s:Int} {w w' w1:World}
theorem aJ.kept{b:Nat}(h:aJ w b p q r s)(hb:b<w.heap.size)(hB:Below w.heap.size w w'):aJ w' b p q r s:=by
 obtain⟨h0,h1,h2,h3⟩:=h;exact⟨by rw[hB.cell (p:=⟨b,0,none⟩) hb];exact h0,by rw[hB.cell (p:=⟨b,1,none⟩) hb];exact h1,by rw[hB.cell (p:=⟨b,2,none⟩) hb];exact h2,by rw[hB.cell (p:=⟨b,3,none⟩) hb];exact h3⟩
theorem dx.kept{b:Nat}(h:dx w b)(hb:b<w.heap.size)(hB:Below w.heap.size w w'):dx w' b:=by
 obtain⟨h0,h1,h2,h3⟩:=h;exact⟨by rw[hB.frozen (p:=⟨b,0,none⟩) hb];exact h0,by rw[hB.frozen (p:=⟨b,1,none⟩) hb];exact h1,by rw[hB.frozen (p:=⟨b,2,none⟩) hb];exact h2,by rw[hB.frozen (p:=⟨b,3,none⟩) hb];exact h3⟩
theorem aP(w:World)(p q r s:Int)(t:TypeId):aJ (w.alloc (.cells #[J Z p,J Z q,J Z r,J Z s] t)) w.heap.size p q r s:=by
 refine⟨?_,?_,?_,?_⟩<;>simp
theorem ll(w:World)(p q r s:Int)(t:TypeId):dx (w.alloc (.cells #[J Z p,J Z q,J Z r,J Z s] t)) w.heap.size:=by
 refine⟨?_,?_,?_,?_⟩<;>simp
theorem aJ.lt{b:Nat}(h:aJ w b p q r s):b<w.heap.size:=World.block_lt_of_cell? w _ h.1
theorem aJ.alloc{b:Nat}(h:aJ w b p q r s)(o:Obj):aJ (w.alloc o) b p q r s:=h.kept h.lt (an _ _)
theorem eX{b:Nat}(h:Below w.heap.size w w1)(hb:w.heap.size≤b)(x y z u:Value):Below w.heap.size w ((((w1.setCell ⟨b,0,none⟩ x).setCell ⟨b,1,none⟩ y).setCell ⟨b,2,none⟩ z).setCell ⟨b,3,none⟩ u):=(((h.setCell hb _).setCell hb _).setCell hb _).setCell hb _
theorem bd{b:Nat}(h:Below w.heap.size w w1)(hb:w.heap.size≤b)(x y z u v:Value):Below w.heap.size w (((((w1.setCell ⟨b,0,none⟩ x).setCell ⟨b,1,none⟩ y).setCell ⟨b,2,none⟩ z).setCell ⟨b,3,none⟩ u).setCell ⟨b,4,none⟩ v):=((((h.setCell hb _).setCell hb _).setCell hb _).setCell hb _).setCell hb _
theorem mF(p q r s:Int)(w:World):
  Calls Tryz.prog 155 #[.agg #[J Z p,J Z q,J Z r,J Z s]] w fun e w'=>e=.returned (.agg #[J Z p,J Z q,J Z r,J Z s])∧Below w.heap.size w w':=by
 go_enter Tryz.func155,Tryz.ntmps155;go_wp2;exact bodyPost_ret (v:=.agg #[J Z p,J Z q,J Z r,J Z s]) (by simp[results,Tryz.results155,go_sem]) rfl ⟨rfl,aX _ _ _⟩
theorem qw(a1 a2 a3 a4 b1 b2 b3 b4:Int)(w:World):(Op.equalIn 10000 43 (.agg #[J Z a1,J Z a2,J Z a3,J Z a4]) (.agg #[J Z b1,J Z b2,J Z b3,J Z b4])).run Tryz.prog w=.ok (eqT a1 a2 a3 a4 b1 b2 b3 b4) w:=by
 have h:=run_equalIn_struct (P:=Tryz.prog) w 9999 43 #[J Z a1,J Z a2,J Z a3,J Z a4] #[J Z b1,J Z b2,J Z b3,J Z b4] (by kernel_rfl) (by kernel_rfl);refine h.trans ?_;by_cases h1:a1=b1
 ·by_cases h2:a2=b2
  ·by_cases h3:a3=b3
   ·by_cases h4:a4=b4
    ·simp[go_sem,eqT,h1,h2,h3,h4]
    ·simp[go_sem,eqT,h1,h2,h3,h4]
   ·simp[go_sem,eqT,h1,h2,h3]
  ·simp[go_sem,eqT,h1,h2]
 ·simp[go_sem,eqT,h1]
theorem Do(a1 a2 a3 a4 b1 b2 b3 b4:Int)(w:World):(binOp .neq 43 (.agg #[J Z a1,J Z a2,J Z a3,J Z a4]) (.agg #[J Z b1,J Z b2,J Z b3,J Z b4])).run Tryz.prog w=.ok (.bool (!eqT a1 a2 a3 a4 b1 b2 b3 b4)) w:=by
 rw[run_neq_struct,qw];rfl
theorem na(a1 a2 a3 a4 b1 b2 b3 b4:Int)(w:World):(binOp .eql 43 (.agg #[J Z a1,J Z a2,J Z a3,J Z a4]) (.agg #[J Z b1,J Z b2,J Z b3,J Z b4])).run Tryz.prog w=.ok (.bool (eqT a1 a2 a3 a4 b1 b2 b3 b4)) w:=by
 rw[run_eql_struct,qw];rfl
theorem lc(m p q r s:Int)(w:World)(hm0:0≤m)(hm:m≤1000000):
  Calls Tryz.prog 125 #[.agg #[J Z p,J Z q,J Z r,J Z s],J Z m] w fun e w'=>e=.returned (.bool (inT m p q r s))∧Below w.heap.size w w':=by
 have i0:∀w:World,(Instr.index 196 (.agg #[J Z p,J Z q,J Z r,J Z s]) (J Z 0)).run Tryz.prog w=.ok (J Z p) w:=fun _=>by kernel_rfl
 have i1:∀w:World,(Instr.index 196 (.agg #[J Z p,J Z q,J Z r,J Z s]) (J Z 1)).run Tryz.prog w=.ok (J Z q) w:=fun _=>by kernel_rfl
 have i2:∀w:World,(Instr.index 196 (.agg #[J Z p,J Z q,J Z r,J Z s]) (J Z 2)).run Tryz.prog w=.ok (J Z r) w:=fun _=>by kernel_rfl
 have i3:∀w:World,(Instr.index 196 (.agg #[J Z p,J Z q,J Z r,J Z s]) (J Z 3)).run Tryz.prog w=.ok (J Z s) w:=fun _=>by kernel_rfl
 have hwr:wrap64 (-m) = -m:=au (by omega) (by omega);go_enter Tryz.func125,Tryz.ntmps125;go_wp2_with fail;refine(mF p q r s _).mono ?_;rintro e w1 ⟨rfl,hB1⟩;have hB:Below w.heap.size w w1:=ak (an _ _) hB1;clear hB1;go_wp2_with fail;go_loop [9] (fun i=>∃k:Nat,k≤4∧i=J Z k∧Hid (0<k→inB m p=true)∧Hid (1<k→inB m q=true)∧Hid (2<k→inB m r=true)∧Hid (3<k→inB m s=true)) (fun i=>4-(intOf i).toNat)
 case atStart=>exact⟨0,Nat.zero_le _,rfl,yz (by omega),yz (by omega),yz (by omega),yz (by omega)⟩
 case round=>
  obtain⟨k,hk,rfl,hx,hy,hz,hu⟩:=hrel;have hk5:k=0∨k=1∨k=2∨k=3∨k=4:=by omega
  rcases hk5 with rfl | rfl | rfl | rfl | rfl
  ·by_cases q1:-m≤p
   ·by_cases q2:p≤m
    ·have HI:=yz (il.2 ⟨q1,q2⟩);go_wp2;go_round
     case rel=>exact⟨1,by omega,rfl,yz (fun _=>yy HI),yz (by omega),yz (by omega),yz (by omega)⟩
     case measure=>simp[intOf]
    ·have HO:=yz (nC (m:=m) (x:=p) (fun h=>q2 h.2));go_wp2;go_ret;exact⟨by simp[inT,yy HO],hB⟩
   ·have HO:=yz (nC (m:=m) (x:=p) (fun h=>q1 h.1));go_wp2;go_ret;exact⟨by simp[inT,yy HO],hB⟩
  ·by_cases q1:-m≤q
   ·by_cases q2:q≤m
    ·have HI:=yz (il.2 ⟨q1,q2⟩);go_wp2;go_round
     case rel=>exact⟨2,by omega,rfl,yz (fun _=>yy hx (by omega)),yz (fun _=>yy HI),yz (by omega),yz (by omega)⟩
     case measure=>simp[intOf]
    ·have HO:=yz (nC (m:=m) (x:=q) (fun h=>q2 h.2));go_wp2;go_ret;exact⟨by simp[inT,yy HO],hB⟩
   ·have HO:=yz (nC (m:=m) (x:=q) (fun h=>q1 h.1));go_wp2;go_ret;exact⟨by simp[inT,yy HO],hB⟩
  ·by_cases q1:-m≤r
   ·by_cases q2:r≤m
    ·have HI:=yz (il.2 ⟨q1,q2⟩);go_wp2;go_round
     case rel=>exact⟨3,by omega,rfl,yz (fun _=>yy hx (by omega)),yz (fun _=>yy hy (by omega)),yz (fun _=>yy HI),yz (by omega)⟩
     case measure=>simp[intOf]
    ·have HO:=yz (nC (m:=m) (x:=r) (fun h=>q2 h.2));go_wp2;go_ret;exact⟨by simp[inT,yy HO],hB⟩
   ·have HO:=yz (nC (m:=m) (x:=r) (fun h=>q1 h.1));go_wp2;go_ret;exact⟨by simp[inT,yy HO],hB⟩
  ·by_cases q1:-m≤s
   ·by_cases q2:s≤m
    ·have HI:=yz (il.2 ⟨q1,q2⟩);go_wp2;go_round
     case rel=>exact⟨4,by omega,rfl,yz (fun _=>yy hx (by omega)),yz (fun _=>yy hy (by omega)),yz (fun _=>yy hz (by omega)),yz (fun _=>yy HI)⟩
     case measure=>simp[intOf]
    ·have HO:=yz (nC (m:=m) (x:=s) (fun h=>q2 h.2));go_wp2;go_ret;exact⟨by simp[inT,yy HO],hB⟩
   ·have HO:=yz (nC (m:=m) (x:=s) (fun h=>q1 h.1));go_wp2;go_ret;exact⟨by simp[inT,yy HO],hB⟩
  ·go_wp2;go_ret;exact⟨by simp[inT,yy hx (by omega),yy hy (by omega),yy hz (by omega),yy hu (by omega)],hB⟩
theorem lX(m a b c d:Int)(w:World)(hm0:0≤m)(hm:m≤1000000):
  Calls Tryz.prog 81 #[.agg #[J Z a,J Z b,J Z c,J Z d],J Z m] w fun e w'=>e=.returned (.bool (inT m a b c d))∧Below w.heap.size w w':=by
 have hwr:wrap64 (-m) = -m:=au (by omega) (by omega);go_enter Tryz.func81,Tryz.ntmps81;go_wp2_with fail;refine(eh a (-m) m _).mono ?_;rintro e w1 ⟨rfl,rfl⟩;rw[isB];cases ha:inB m a
 ·go_wp2_with fail;go_ret;exact⟨by simp[inT,ha],an _ _⟩
 ·go_wp2_with fail;refine(eh b (-m) m _).mono ?_;rintro e w1 ⟨rfl,rfl⟩;rw[isB];cases hb:inB m b
  ·go_wp2_with fail;go_ret;exact⟨by simp[inT,hb],an _ _⟩
  ·go_wp2_with fail;refine(eh c (-m) m _).mono ?_;rintro e w1 ⟨rfl,rfl⟩;rw[isB];cases hc:inB m c
   ·go_wp2_with fail;go_ret;exact⟨by simp[inT,hc],an _ _⟩
   ·go_wp2_with fail;refine(eh d (-m) m _).mono ?_;rintro e w1 ⟨rfl,rfl⟩;rw[isB];go_wp2_with fail;go_ret;exact⟨by simp[inT,ha,hb,hc],an _ _⟩
theorem fT_0{a b c d:Int}(h:a≠0):fT a b c d=a:=by unfold fT;rw[if_pos h]
theorem fT_1{b c d:Int}(h:b≠0):fT 0 b c d=b:=by unfold fT;rw[if_neg (by simp),if_pos h]
theorem fT_2{c d:Int}(h:c≠0):fT 0 0 c d=c:=by unfold fT;rw[if_neg (by simp),if_neg (by simp),if_pos h]
theorem fT_3{d:Int}:fT 0 0 0 d=d:=by unfold fT;rw[if_neg (by simp),if_neg (by simp),if_neg (by simp)]
theorem jZ(a b c d:Int)(w:World):
  Calls Tryz.prog 82 #[.agg #[J Z a,J Z b,J Z c,J Z d]] w fun e w'=>e=.returned (J Z (fT a b c d))∧Below w.heap.size w w':=by
 go_enter Tryz.func82,Tryz.ntmps82;go_wp2_with fail;go_loop [4] (fun i=>∃k:Nat,k≤4∧i=J Z k∧Hid (0<k→a=0)∧Hid (1<k→b=0)∧Hid (2<k→c=0)∧Hid (3<k→d=0)) (fun i=>4-(intOf i).toNat)
 case atStart=>exact⟨0,Nat.zero_le _,rfl,yz (by omega),yz (by omega),yz (by omega),yz (by omega)⟩
 case round=>
  obtain⟨k,hk,rfl,hx,hy,hz,hu⟩:=hrel;have hk5:k=0∨k=1∨k=2∨k=3∨k=4:=by omega
  rcases hk5 with rfl | rfl | rfl | rfl | rfl
  ·have _u:=hk;by_cases h:a=0
   ·subst h;clear hx hy hz hu;go_wp2;go_round
    case rel=>exact⟨1,by omega,rfl,yz (by simp),yz (by omega),yz (by omega),yz (by omega)⟩
    case measure=>simp[intOf]
   ·have HF:Hid (fT a b c d=a):=yz (fT_0 h);clear hx hy hz hu;go_wp2;go_ret;exact⟨by rw[yy HF];rfl,aX _ _ _⟩
  ·have e0:=yy hx (by omega);subst e0;by_cases h:b=0
   ·subst h;clear hx hy hz hu;go_wp2;go_round
    case rel=>exact⟨2,by omega,rfl,yz (by simp),yz (by simp),yz (by omega),yz (by omega)⟩
    case measure=>simp[intOf]
   ·have HF:Hid (fT 0 b c d=b):=yz (fT_1 h);clear hx hy hz hu;go_wp2;go_ret;exact⟨by rw[yy HF];rfl,aX _ _ _⟩
  ·have e0:=yy hx (by omega);have e1:=yy hy (by omega);subst e0 e1;by_cases h:c=0
   ·subst h;clear hx hy hz hu;go_wp2;go_round
    case rel=>exact⟨3,by omega,rfl,yz (by simp),yz (by simp),yz (by simp),yz (by omega)⟩
    case measure=>simp[intOf]
   ·have HF:Hid (fT 0 0 c d=c):=yz (fT_2 h);clear hx hy hz hu;go_wp2;go_ret;exact⟨by rw[yy HF];rfl,aX _ _ _⟩
  ·have e0:=yy hx (by omega);have e1:=yy hy (by omega);have e2:=yy hz (by omega);subst e0 e1 e2;by_cases h:d=0
   ·subst h;clear hx hy hz hu;go_wp2;go_round
    case rel=>exact⟨4,by omega,rfl,yz (by simp),yz (by simp),yz (by simp),yz (by simp)⟩
    case measure=>simp[intOf]
   ·have HF:Hid (fT 0 0 0 d=d):=yz fT_3;clear hx hy hz hu;go_wp2;go_ret;exact⟨by rw[yy HF];rfl,aX _ _ _⟩
  ·have e0:=yy hx (by omega);have e1:=yy hy (by omega);have e2:=yy hz (by omega);have e3:=yy hu (by omega);subst e0 e1 e2 e3;clear hx hy hz hu;go_wp2;go_ret;exact⟨by rw[fT_3];rfl,aX _ _ _⟩
theorem qR(a b c d:Int)(w:World)(h:inT 1000 a b c d=true):
  Calls Tryz.prog 83 #[.agg #[J Z a,J Z b,J Z c,J Z d]] w fun e w'=>e=.returned (J Z (gT a b c d))∧Below w.heap.size w w':=by
 obtain⟨ha,hb,hc,hd⟩:=bU.1 h;have hg1:=mg ha hb;have hg2:=mg hc hd;go_enter Tryz.func83,Tryz.ntmps83;go_wp2_with fail;go_quiet (first | (go_at_call_of 71 (Value.int IntKind.i64 a);refine Calls.quiet_of (iD a b _ (by omega) (by omega))) | (go_at_call_of 71 (Value.int IntKind.i64 c);refine Calls.quiet_of (iD c d _ (by omega) (by omega))) | (go_at_call 71;refine Calls.quiet_of (iD _ _ _ ?_ ?_)<;>omega))
 go_wp2;go_ret;exact⟨rfl,ak (an _ _) (dC _ _)⟩
theorem bu(a b c d:Int)(w:World):
  Calls Tryz.prog 62 #[.agg #[J Z a,J Z b,J Z c,J Z d]] w fun e w'=>e=.returned (.bool (aD a b c d))∧Below w.heap.size w w':=by
 go_enter Tryz.func62,Tryz.ntmps62;go_wp2_with fail;refine(lX 5 a b c d _ (by omega) (by omega)).mono ?_;rintro e w1 ⟨rfl,hB1⟩;have va:aJ w1 w.heap.size a b c d:=(aP w a b c d _).kept (by simp) hB1;have hB:Below w.heap.size w w1:=ak (an _ _) hB1;clear hB1;have hva:=va;obtain⟨c0,c1,c2,c3⟩:=va;cases h5:inT 5 a b c d
 ·go_wp2_with fail;go_ret;exact⟨by simp[aD,h5],hB⟩
 ·go_wp2_with fail;refine(jZ a b c d _).mono ?_;rintro e w2 ⟨rfl,hB2⟩;have va:=hva.kept hva.lt hB2;replace hB:=ak hB hB2;clear hB2 hva c0 c1 c2 c3;have hva:=va;obtain⟨c0,c1,c2,c3⟩:=va;by_cases hf:0<fT a b c d
  ·go_wp2_with fail;refine(qR a b c d _ (qN h5 (by omega))).mono ?_;rintro e w3 ⟨rfl,hB3⟩;replace hB:=ak hB hB3;go_wp2_with fail;go_ret;exact⟨by rw[aD,h5,decide_eq_true hf];rfl,hB⟩
  ·have HN:=yz (decide_eq_false hf);go_wp2_with fail;go_ret;exact⟨by rw[aD,h5,yy HN];rfl,hB⟩
end
section
open Go.Value renaming int → J
open Go.IntKind renaming i64 → Z
open Go.RowKit Go.Sort
def ptT(a b c d:Int):Nat→Int
 | 0=>a
 | 1=>b
 | 2=>c
 | _=>d
def gS4(a b c d:Int):Nat→Int
 | 0=>0
 | k+1=>((Int.gcd (gS4 a b c d k) (ptT a b c d k):Nat):Int)
def fS4(a b c d:Int):Nat→Int
 | 0=>0
 | k+1=>if fS4 a b c d k=0 then ptT a b c d k else fS4 a b c d k
theorem rn{m a b c d:Int}(h:inT m a b c d=true)(k:Nat):-m≤ptT a b c d k∧ptT a b c d k≤m:=by
 obtain⟨h1,h2,h3,h4⟩:=bU.1 h
 match k with
 | 0=>exact h1
 | 1=>exact h2
 | 2=>exact h3
 | _+3=>exact h4
theorem oy{a b c d:Int}(h:inT 1000 a b c d=true)(k:Nat):-1000000≤gS4 a b c d k∧gS4 a b c d k≤1000000:=by
 have:0≤gS4 a b c d k∧gS4 a b c d k≤1000:=by
  induction k with
  | zero=>exact⟨by show (0:Int)≤0;omega,by show (0:Int)≤1000;omega⟩
  | succ k ih=>exact mg (m:=1000) (by omega) (rn h k)
 omega
theorem ED(a b c d:Int):fS4 a b c d 4=fT a b c d:=by
 unfold fT;by_cases h1:a=0
 ·by_cases h2:b=0
  ·by_cases h3:c=0
   ·simp[fS4,ptT,h1,h2,h3]
   ·simp[fS4,ptT,h1,h2,h3]
  ·simp[fS4,ptT,h1,h2]
 ·simp[fS4,ptT,h1]
theorem zX{a b c d:Int}{k:Nat}(h:fS4 a b c d k=0):fS4 a b c d (k+1)=ptT a b c d k:=by
 show (if fS4 a b c d k=0 then ptT a b c d k else fS4 a b c d k)=_;rw[if_pos h]
theorem zW{a b c d:Int}{k:Nat}(h:fS4 a b c d k≠0):fS4 a b c d (k+1)=fS4 a b c d k:=by
 show (if fS4 a b c d k=0 then ptT a b c d k else fS4 a b c d k)=_;rw[if_neg h]
theorem po(a b c d:Int)(w:World)(h:inT 1000 a b c d=true)(hz:¬(a=0∧b=0∧c=0∧d=0)):
  Calls Tryz.prog 126 #[.agg #[J Z a,J Z b,J Z c,J Z d]] w fun e w'=>e=.returned (.agg #[J Z (a.tdiv (sT a b c d)),J Z (b.tdiv (sT a b c d)),J Z (c.tdiv (sT a b c d)),J Z (d.tdiv (sT a b c d))])∧Below w.heap.size w w':=by
 have i0:∀w:World,(Instr.index 196 (.agg #[J Z a,J Z b,J Z c,J Z d]) (J Z 0)).run Tryz.prog w=.ok (J Z a) w:=fun _=>by kernel_rfl
 have i1:∀w:World,(Instr.index 196 (.agg #[J Z a,J Z b,J Z c,J Z d]) (J Z 1)).run Tryz.prog w=.ok (J Z b) w:=fun _=>by kernel_rfl
 have i2:∀w:World,(Instr.index 196 (.agg #[J Z a,J Z b,J Z c,J Z d]) (J Z 2)).run Tryz.prog w=.ok (J Z c) w:=fun _=>by kernel_rfl
 have i3:∀w:World,(Instr.index 196 (.agg #[J Z a,J Z b,J Z c,J Z d]) (J Z 3)).run Tryz.prog w=.ok (J Z d) w:=fun _=>by kernel_rfl
 have HI:=yz h;have HZ:=yz hz;have HW:Hid (∀(x s:Int),-1000≤x∧x≤1000→wrap64 (x.tdiv s)=x.tdiv s):=yz (fun x s hx=>by have:=Av (s:=s) hx;exact au (by omega) (by omega));clear h hz;go_enter Tryz.func126,Tryz.ntmps126;go_wp2_with fail;refine(mF a b c d _).mono ?_;rintro e w1 ⟨rfl,hB1⟩;have va:aJ w1 w.heap.size a b c d:=((aP w a b c d _).alloc _).kept (by simp;omega) hB1;have vr:aJ w1 (w.heap.size+1) 0 0 0 0:=(by simpa using aP (w.alloc _) 0 0 0 0 _:aJ _ (w.heap.size+1) 0 0 0 0).kept (by simp) hB1;have fr:dx w1 (w.heap.size+1):=(by simpa using ll (w.alloc _) 0 0 0 0 _:dx _ (w.heap.size+1)).kept (by simp) hB1;have hB:Below w.heap.size w w1:=ak (aX _ _ _) hB1;clear hB1;have Va:=yz va;have Vr:=yz vr;have Fr:=yz fr;have HB:=yz hB;clear va vr fr hB;go_wp2_with fail;go_loopw [3,4,9] (fun u f i wr=>∃(k n:Nat),k≤4∧i=J Z k∧u=J Z (gS4 a b c d k)∧f=J Z (fS4 a b c d k)∧wr=w1.drewN n) (fun _ _ i _=>4-(intOf i).toNat)
 case atStart=>exact⟨0,0,by omega,rfl,rfl,rfl,rfl⟩
 case round=>
  obtain⟨k,n,hk,rfl,rfl,rfl,rfl⟩:=hrel;have hk5:k=0∨k=1∨k=2∨k=3∨k=4:=by omega
  rcases hk5 with rfl | rfl | rfl | rfl | rfl
  ·go_wp2_with fail;refine(fV _ a _ (oy (yy HI) 0) (by have:=rn (yy HI) 0;simp only[ptT]at this;omega)).mono ?_;rintro e w3 ⟨rfl,m,rfl⟩;have hg:((Int.gcd (gS4 a b c d 0) a:Nat):Int)=gS4 a b c d 1:=rfl;rw[hg];clear hg;by_cases hf:fS4 a b c d 0=0
   ·have HF:=yz (zX hf);rw[hf];clear hf;go_wp2_with fail;go_roundw
    case rel=>exact⟨1,n+m,by omega,rfl,rfl,by rw[yy HF];rfl,by simp⟩
    case measure=>simp[intOf]
   ·have HF:=yz (zW hf);have hb:(fS4 a b c d 0==0)=false:=by simpa using hf
    clear hf;go_wp2_with fail;go_roundw
    case rel=>exact⟨1,n+m,by omega,rfl,rfl,by rw[yy HF],by simp⟩
    case measure=>simp[intOf]
  ·go_wp2_with fail;refine(fV _ b _ (oy (yy HI) 1) (by have:=rn (yy HI) 1;simp only[ptT]at this;omega)).mono ?_;rintro e w3 ⟨rfl,m,rfl⟩;have hg:((Int.gcd (gS4 a b c d 1) b:Nat):Int)=gS4 a b c d 2:=rfl;rw[hg];clear hg;by_cases hf:fS4 a b c d 1=0
   ·have HF:=yz (zX hf);rw[hf];clear hf;go_wp2_with fail;go_roundw
    case rel=>exact⟨2,n+m,by omega,rfl,rfl,by rw[yy HF];rfl,by simp⟩
    case measure=>simp[intOf]
   ·have HF:=yz (zW hf);have hb:(fS4 a b c d 1==0)=false:=by simpa using hf
    clear hf;go_wp2_with fail;go_roundw
    case rel=>exact⟨2,n+m,by omega,rfl,rfl,by rw[yy HF],by simp⟩
    case measure=>simp[intOf]
  ·go_wp2_with fail;refine(fV _ c _ (oy (yy HI) 2) (by have:=rn (yy HI) 2;simp only[ptT]at this;omega)).mono ?_;rintro e w3 ⟨rfl,m,rfl⟩;have hg:((Int.gcd (gS4 a b c d 2) c:Nat):Int)=gS4 a b c d 3:=rfl;rw[hg];clear hg;by_cases hf:fS4 a b c d 2=0
   ·have HF:=yz (zX hf);rw[hf];clear hf;go_wp2_with fail;go_roundw
    case rel=>exact⟨3,n+m,by omega,rfl,rfl,by rw[yy HF];rfl,by simp⟩
    case measure=>simp[intOf]
   ·have HF:=yz (zW hf);have hb:(fS4 a b c d 2==0)=false:=by simpa using hf
    clear hf;go_wp2_with fail;go_roundw
    case rel=>exact⟨3,n+m,by omega,rfl,rfl,by rw[yy HF],by simp⟩
    case measure=>simp[intOf]
  ·go_wp2_with fail;refine(fV _ d _ (oy (yy HI) 3) (by have:=rn (yy HI) 3;simp only[ptT]at this;omega)).mono ?_;rintro e w3 ⟨rfl,m,rfl⟩;have hg:((Int.gcd (gS4 a b c d 3) d:Nat):Int)=gS4 a b c d 4:=rfl;rw[hg];clear hg;by_cases hf:fS4 a b c d 3=0
   ·have HF:=yz (zX hf);rw[hf];clear hf;go_wp2_with fail;go_roundw
    case rel=>exact⟨4,n+m,by omega,rfl,rfl,by rw[yy HF];rfl,by simp⟩
    case measure=>simp[intOf]
   ·have HF:=yz (zW hf);have hb:(fS4 a b c d 3==0)=false:=by simpa using hf
    clear hf;go_wp2_with fail;go_roundw
    case rel=>exact⟨4,n+m,by omega,rfl,rfl,by rw[yy HF],by simp⟩
    case measure=>simp[intOf]
  ·have hg:gS4 a b c d 4=gT a b c d:=qI a b c d;rw[hg,ED];clear hg i0 i1 i2 i3;have hw:wrap64 (-gT a b c d) = -gT a b c d:=by have:=oy (yy HI) 4;rw[show gS4 a b c d 4=gT a b c d from qI a b c d]at this;exact au (by omega) (by omega)
   have HE:Hid (∀g,g=sT a b c d→Value.agg #[J Z (wrap64 (a.tdiv g)),J Z (wrap64 (b.tdiv g)),J Z (wrap64 (c.tdiv g)),J Z (wrap64 (d.tdiv g))]=.agg #[J Z (a.tdiv (sT a b c d)),J Z (b.tdiv (sT a b c d)),J Z (c.tdiv (sT a b c d)),J Z (d.tdiv (sT a b c d))]):=yz (by
    rintro g rfl;obtain⟨x1,x2,x3,x4⟩:=bU.1 (yy HI)
    rw[yy HW _ _ x1,yy HW _ _ x2,yy HW _ _ x3,yy HW _ _ x4])
   have HN:Hid (sT a b c d≠0):=yz (FD (yy HZ));have va:aJ (w1.drewN n) w.heap.size a b c d:=yy Va;have vr:aJ (w1.drewN n) (w.heap.size+1) 0 0 0 0:=yy Vr;have fr:dx (w1.drewN n) (w.heap.size+1):=yy Fr;have hB:Below w.heap.size w (w1.drewN n):=ak (yy HB) (dC _ _);clear Va Vr Fr HB HW HI HZ;by_cases hf:fT a b c d<0
   ·have hs:sT a b c d = -gT a b c d:=by unfold sT;rw[if_pos hf]
    have HG:=yz hs.symm;rw[hs]at HN;go_wp2_with fail;rw[hw];generalize -gT a b c d=g at HN HG ⊢;clear hw hs hf;have hne:g≠0:=yy HN;have hz0:(g==0)=false:=by simpa using hne
    generalize w1.drewN n=w3 at va vr fr hB ⊢;obtain⟨ca0,ca1,ca2,ca3⟩:=va;obtain⟨cr0,cr1,cr2,cr3⟩:=vr;obtain⟨fr0,fr1,fr2,fr3⟩:=fr;go_region
    go_wp2;exact bodyPost_ret (v:=_) (by simp[results,Tryz.results126,go_sem,cr0,cr1,cr2,cr3]) rfl ⟨congrArg _ (yy HE g (yy HG)),(eX hB (by omega) _ _ _ _).drew⟩
   ·have hs:sT a b c d=gT a b c d:=by unfold sT;rw[if_neg hf]
    have HG:=yz hs.symm;rw[hs]at HN;go_wp2_with fail;generalize gT a b c d=g at HN HG ⊢;clear hw hs hf;have hne:g≠0:=yy HN;have hz0:(g==0)=false:=by simpa using hne
    generalize w1.drewN n=w3 at va vr fr hB ⊢;obtain⟨ca0,ca1,ca2,ca3⟩:=va;obtain⟨cr0,cr1,cr2,cr3⟩:=vr;obtain⟨fr0,fr1,fr2,fr3⟩:=fr;go_region
    go_wp2;exact bodyPost_ret (v:=_) (by simp[results,Tryz.results126,go_sem,cr0,cr1,cr2,cr3]) rfl ⟨congrArg _ (yy HE g (yy HG)),(eX hB (by omega) _ _ _ _).drew⟩
theorem lf{a b c d:Int}(h:iO a b c d=false):¬(a=0∧b=0∧c=0∧d=0):=fun e=>by rw[jJ.2 e]at h;exact absurd h (by decide)
theorem xR{a b c d:Int}(h:iO a b c d=true):aD a b c d=false:=by
 cases hr:aD a b c d
 ·rfl
 ·exact absurd (jJ.1 h) (lC hr)
theorem bw(a b c d:Int)(w:World):
  Calls Tryz.prog 97 #[.agg #[J Z a,J Z b,J Z c,J Z d]] w fun e w'=>e=.returned (.bool (aD a b c d))∧Below w.heap.size w w':=by
 have hn:=fun w=>Do a b c d 0 0 0 0 w;have va0:=aP w a b c d 43;have hB0:=an w (.cells #[J Z a,J Z b,J Z c,J Z d] 43);cases hz:eqT a b c d 0 0 0 0
 ·rw[hz]at hn;have HZ:=yz (lf (show iO a b c d=false from hz));cases h5:inT 5 a b c d
  ·have HR:Hid (aD a b c d=false):=yz (by rw[aD,h5];rfl);have cW:=yz (fun W=>(lc 5 a b c d W (by omega) (by omega)).mono (fun e w' h=>(⟨by rw[h.1,h5],h.2⟩:e=.returned (.bool false)∧Below W.heap.size W w')));clear h5 hz;go_enter Tryz.func97,Tryz.ntmps97;go_wp2_with fail;generalize w.alloc (.cells #[J Z a,J Z b,J Z c,J Z d] 43)=w1 at va0 hB0 ⊢;obtain⟨c0,c1,c2,c3⟩:=va0;have k0:=cell_regrown c0;have k1:=cell_regrown c1;have k2:=cell_regrown c2;have k3:=cell_regrown c3;refine dg ?_;repeat (quiet_step (exact Calls.regrown_of (yy cW _)))
   refine dv fun dq osq=>?_;clear c0 c1 c2 c3 k0 k1 k2 k3 hn;go_wp2;go_ret;exact⟨by rw[yy HR];rfl,ak hB0 (below_regrown w1 dq osq)⟩
  ·have HR:=yz (sC (yy HZ));have HT:Hid (aD a b c d=(decide (0<fT a b c d)&&decide (gT a b c d=1))):=yz (by rw[aD,h5,Bool.true_and]);have cW:=yz (fun W=>(lc 5 a b c d W (by omega) (by omega)).mono (fun e w' h=>(⟨by rw[h.1,h5],h.2⟩:e=.returned (.bool true)∧Below W.heap.size W w')));have cR:=yz (fun W=>po a b c d W (qN h5 (by omega)) (yy HZ));have he:=fun w=>na a b c d (a.tdiv (sT a b c d)) (b.tdiv (sT a b c d)) (c.tdiv (sT a b c d)) (d.tdiv (sT a b c d)) w;rw[yy HR]at he;clear h5 hz HZ HR;go_enter Tryz.func97,Tryz.ntmps97;go_wp2_with fail;generalize w.alloc (.cells #[J Z a,J Z b,J Z c,J Z d] 43)=w1 at va0 hB0 ⊢;obtain⟨c0,c1,c2,c3⟩:=va0;have k0:=cell_regrown c0;have k1:=cell_regrown c1;have k2:=cell_regrown c2;have k3:=cell_regrown c3;refine dg ?_;repeat (quiet_step (with_reducible first | exact aO cW | exact aO cR))
   refine dv fun dq osq=>?_;clear c0 c1 c2 c3 k0 k1 k2 k3 hn he;go_wp2;go_ret;exact⟨by rw[yy HT];rfl,ak hB0 (below_regrown w1 dq osq)⟩
 ·rw[hz]at hn;have HR:=yz (xR (show iO a b c d=true from hz));clear hz;go_enter Tryz.func97,Tryz.ntmps97;go_wp2_with fail;generalize w.alloc (.cells #[J Z a,J Z b,J Z c,J Z d] 43)=w1 at va0 hB0 ⊢;obtain⟨c0,c1,c2,c3⟩:=va0;have k0:=cell_regrown c0;have k1:=cell_regrown c1;have k2:=cell_regrown c2;have k3:=cell_regrown c3;refine dg ?_;repeat (quiet_step (fail))
  refine dv fun dq osq=>?_;clear c0 c1 c2 c3 k0 k1 k2 k3 hn;go_wp2;go_ret;exact⟨by rw[yy HR];rfl,ak hB0 (below_regrown w1 dq osq)⟩
variable {x y z:Int}
theorem zP{a b c d:Int}(h:apR a b c d x y z=false):Value.agg #[J Z (apI (apR a b c d x y z) (apX a b c d x y z)),J Z (apI (apR a b c d x y z) (apY a b c d x y z)),J Z (apI (apR a b c d x y z) (apZ a b c d x y z))]=Value.agg #[J Z 0,J Z 0,J Z 0]:=by
 rw[h];rfl
theorem Es{a b c d:Int}(h:apR a b c d x y z=true):Value.agg #[J Z (apI (apR a b c d x y z) (apX a b c d x y z)),J Z (apI (apR a b c d x y z) (apY a b c d x y z)),J Z (apI (apR a b c d x y z) (apZ a b c d x y z))]=Value.agg #[J Z (apX a b c d x y z),J Z (apY a b c d x y z),J Z (apZ a b c d x y z)]:=by
 rw[h];rfl
theorem qe(h:dy x y z=true):aR 1800 x y z=true:=by unfold dy at h;rw[Bool.and_eq_true]at h;exact h.2
theorem jY(a b c d x y z:Int)(w:World)(ht:inT 5 a b c d=true)(hv:aR 1800 x y z=true):
  Calls Tryz.prog 55 #[.agg #[J Z a,J Z b,J Z c,J Z d],.agg #[J Z x,J Z y,J Z z]] w fun e w'=>e=.returned (.agg #[J Z (apX a b c d x y z),J Z (apY a b c d x y z),J Z (apZ a b c d x y z)])∧Below w.heap.size w w':=by
 have HX:=yz (Fm ht hv);have HY:=yz (Fn ht hv);have HZ:=yz (Fo ht hv);clear ht hv;go_enter Tryz.func55,Tryz.ntmps55;go_wp2;rw[yy HX,yy HY,yy HZ];exact bodyPost_ret (v:=.agg #[J Z (apX a b c d x y z),J Z (apY a b c d x y z),J Z (apZ a b c d x y z)]) (by simp[results,Tryz.results55,go_sem]) rfl ⟨rfl,eC _ _ _ _⟩
theorem sS(a b c d x y z:Int)(w:World):
  Calls Tryz.prog 148 #[.agg #[J Z a,J Z b,J Z c,J Z d],.agg #[J Z x,J Z y,J Z z]] w fun e w'=>e=.returned (.agg #[J Z (apI (apR a b c d x y z) (apX a b c d x y z)),J Z (apI (apR a b c d x y z) (apY a b c d x y z)),J Z (apI (apR a b c d x y z) (apZ a b c d x y z))])∧Below w.heap.size w w':=by
 go_enter Tryz.func148,Tryz.ntmps148;go_wp2_with fail;refine(bw a b c d _).mono ?_;rintro e w1 ⟨rfl,hx⟩;have va:aJ w1 w.heap.size a b c d:=(((aP w a b c d _).alloc _).alloc _).kept (by simp;omega) hx;have vv:aK w1 (w.heap.size+1) x y z:=((by simpa using aM (w.alloc _) x y z _:aK _ (w.heap.size+1) x y z).alloc (by simp) _).kept (by simp) hx;have vr:aK w1 (w.heap.size+1+1) 0 0 0:=(by simpa using aM ((w.alloc _).alloc _) 0 0 0 _:aK _ (w.heap.size+1+1) 0 0 0).kept (by simp) hx;have fr:eA w1 (w.heap.size+1+1):=(by simpa using fe ((w.alloc _).alloc _) 0 0 0 _:eA _ (w.heap.size+1+1)).kept (by simp) hx;have hs:w.heap.size+2<w1.heap.size:=by have:=hx.size;simp at this;omega
 have hB:Below w.heap.size w w1:=ak (eC _ _ _ _) hx;clear hx;cases h1:aD a b c d
 ·have HR:=yz (zP (a:=a) (b:=b) (c:=c) (d:=d) (x:=x) (y:=y) (z:=z) (by rw[apR,h1];rfl));obtain⟨cr0,cr1,cr2⟩:=vr;obtain⟨fr0,fr1,fr2⟩:=fr;go_wp2_with fail;exact bodyPost_ret (v:=.agg #[J Z 0,J Z 0,J Z 0]) (by simp[results,Tryz.results148,go_sem,cr0,cr1,cr2]) rfl ⟨by rw[yy HR],bP hB (by omega) _ _ _⟩
 ·have wa:=va;have wv:=vv;obtain⟨ca0,ca1,ca2,ca3⟩:=wa;obtain⟨cv0,cv1,cv2⟩:=wv;go_wp2_with fail;clear ca0 ca1 ca2 ca3 cv0 cv1 cv2;refine(jW x y z _).mono ?_;rintro e w2 ⟨rfl,hx⟩;replace va:=va.kept (by omega) hx;replace vv:=vv.kept (by omega) hx;replace vr:=vr.kept (by omega) hx;replace fr:=fr.kept (by omega) hx;replace hB:=ak hB hx;replace hs:w.heap.size+2<w2.heap.size:=by have:=hx.size;omega
  clear hx;cases h2:dy x y z
  ·have HR:=yz (zP (a:=a) (b:=b) (c:=c) (d:=d) (x:=x) (y:=y) (z:=z) (by rw[apR,h1,h2];rfl));obtain⟨cr0,cr1,cr2⟩:=vr;obtain⟨fr0,fr1,fr2⟩:=fr;go_wp2_with fail;exact bodyPost_ret (v:=.agg #[J Z 0,J Z 0,J Z 0]) (by simp[results,Tryz.results148,go_sem,cr0,cr1,cr2]) rfl ⟨by rw[yy HR],bP hB (by omega) _ _ _⟩
  ·have wa:=va;have wv:=vv;obtain⟨ca0,ca1,ca2,ca3⟩:=wa;obtain⟨cv0,cv1,cv2⟩:=wv;have HR:=yz (Es (a:=a) (b:=b) (c:=c) (d:=d) (x:=x) (y:=y) (z:=z) (by rw[apR,h1,h2];rfl));have HX:=yz (Fm (bg.1 h1).1 (qe h2));have HY:=yz (Fn (bg.1 h1).1 (qe h2));have HZ:=yz (Fo (bg.1 h1).1 (qe h2));obtain⟨cr0,cr1,cr2⟩:=vr;obtain⟨fr0,fr1,fr2⟩:=fr;clear va vv h1 h2;go_wp2;go_quiet (fail)
   go_wp2;go_quiet (fail)
   go_wp2;go_quiet (fail)
   go_wp2;rw[yy HX,yy HY,yy HZ];exact bodyPost_ret (v:=.agg #[J Z (apX a b c d x y z),J Z (apY a b c d x y z),J Z (apZ a b c d x y z)]) (by simp[results,Tryz.results148,go_sem,cr0,cr1,cr2]) rfl ⟨by rw[yy HR],bP (ak hB (dC _ _)) (by omega) _ _ _⟩
def lT(x y z cone:Int):Bool:=decide (0<z)&&decide (wrap64 (wrap64 (cone*cone)*bG x y z x y z)≤wrap64 (wrap64 (10000*z)*z))
def sW(s:St)(a b c d cone:Int):Bool:=lT (apX a b c d s.2.1 s.2.2.1 s.2.2.2) (apY a b c d s.2.1 s.2.2.1 s.2.2.2) (apZ a b c d s.2.1 s.2.2.1 s.2.2.2) cone
def bF(L:List St)(a b c d cone:Int):Nat→List Int
 | 0=>[]
 | k+1=>if sW (stA L k) a b c d cone=true then bF L a b c d cone k ++ [(stA L k).1] else bF L a b c d cone k
def eJ(L:List St)(a b c d cone:Int):List Int:=if (bc L&&aD a b c d&&(decide (0≤cone)&&decide (cone≤100)))=true then bF L a b c d cone L.length else []
theorem my(L:List St)(a b c d cone:Int)(k:Nat):(bF L a b c d cone k).length≤k:=by
 induction k with
 | zero=>exact Nat.le_refl _
 | succ k ih=>
  unfold bF;split
  ·simp;exact ih
  ·omega
abbrev mm(xs:List Int):List Value:=xs.map (Value.int .i64)
theorem wP:(Tryz.prog.info? 2).map (fun i=>(i.zero,i.size,i.bytes))=some (some (J Z 0),1,8):=by kernel_rfl
variable {xs:List Value} {m:Nat} {v:Value} {w:World}
theorem World.ownsRow_weak{B:Nat}{t:TypeId}{n:Nat}(h:w.ownsRow (B+1) t m v n xs):w.ownsRow B t m v n xs:=by
 obtain⟨h1,h2⟩:=h;refine⟨h1,?_⟩;rcases h2 with h2 | ⟨g,cap,cur,e,hb,r⟩
 ·exact .inl h2
 ·exact .inr ⟨g,cap,cur,e,by omega,r⟩
theorem World.ownsRow_less{B B':Nat}{t:TypeId}{n:Nat}(h:w.ownsRow B t m v n xs)(hb:B'≤B):w.ownsRow B' t m v n xs:=by
 obtain⟨h1,h2⟩:=h;refine⟨h1,?_⟩;rcases h2 with h2 | ⟨g,cap,cur,e,hg,r⟩
 ·exact .inl h2
 ·exact .inr ⟨g,cap,cur,e,by omega,r⟩
theorem wK{B:Nat}{w1 w2:World}{t:TypeId}{n:Nat}(h:Below B w w1)(hB:B≤w1.heap.size)(ho:w1.ownsRow B t m v n xs)(hg:w1.grownBy w2 v.ownBlock):Below B w w2:=
 h.trans ⟨hg.os,hg.tape,hg.output,hg.size,fun k hk=>hg.block k (by omega) (fun e=>by have:=(ho.lt k e.symm).1;omega)⟩
theorem yP(x y z cone:Int)(w:World):
  Calls Tryz.prog 166 #[.agg #[J Z x,J Z y,J Z z],J Z cone] w fun e w'=>e=.returned (.bool (lT x y z cone))∧Below w.heap.size w w':=by
 have cQ:=yz (fun W=>mE x y z W);have HC:Hid (lT x y z cone=(decide (0<z)&&decide (wrap64 (wrap64 (cone*cone)*bG x y z x y z)≤wrap64 (wrap64 (10000*z)*z)))):=yz rfl;generalize bG x y z x y z=dd at cQ HC;obtain⟨m1,hm1⟩:∃m,wrap64 (10000*z)=m:=⟨_,rfl⟩
 obtain⟨m2,hm2⟩:∃m,wrap64 (m1*z)=m:=⟨_,rfl⟩
 obtain⟨m3,hm3⟩:∃m,wrap64 (cone*cone)=m:=⟨_,rfl⟩
 obtain⟨m4,hm4⟩:∃m,wrap64 (m3*dd)=m:=⟨_,rfl⟩
 rw[hm1,hm2,hm3,hm4]at HC;have hB:=an w (.cells #[J Z x,J Z y,J Z z] 72);have hV:=aM w x y z 72;go_enter Tryz.func166,Tryz.ntmps166;go_wp2_with fail;generalize w.alloc (.cells #[J Z x,J Z y,J Z z] 72)=W at hB hV ⊢;have HB:=yz hB;obtain⟨v0,v1,v2⟩:=hV;have r0:=cell_regrown v0;have r1:=cell_regrown v1;have r2:=cell_regrown v2;clear hB v0 v1 v2;by_cases hz:0<z
 ·have HC2:Hid (lT x y z cone=decide (m4≤m2)):=yz (by rw[yy HC];simp[hz]);clear HC;refine dg ?_;repeat (go_big_quiet_step (with_reducible first | exact aO cQ))
  refine dv fun dq osq=>?_;have hx:=ak (yy HB) (below_regrown W dq osq);go_wp2_with fail;go_ret;exact⟨by rw[yy HC2];rfl,hx⟩
 ·have hz':decide (0<z)=false:=by simpa using hz
  have HC2:Hid (lT x y z cone=false):=yz (by rw[yy HC,hz'];rfl);clear HC;refine dg ?_;repeat (go_big_quiet_step (with_reducible first | exact aO cQ))
  refine dv fun dq osq=>?_;have hx:=ak (yy HB) (below_regrown W dq osq);go_wp2_with fail;go_ret;exact⟨by rw[yy HC2];rfl,hx⟩
def oJ(L:List St)(id:Int)(k:Nat):Prop:=∀j,j<k→(stA L j).1≠id
def atV(L:List St)(n:Nat)(id:Int):Int×Int×Int:=match (List.range n).find? (fun j=>decide ((stA L j).1=id)) with | none=>(0,0,0) | some j=>(stA L j).2
variable {id:Int}
theorem pO{L:List St}{n:Nat}(h:oJ L id n):atV L n id=(0,0,0):=by
 unfold atV
 have:(List.range n).find? (fun j=>decide ((stA L j).1=id))=none:=by
  rw[List.find?_eq_none];intro j hj;simp[h j (List.mem_range.1 hj)]
 rw[this]
theorem yr{L:List St}{n k:Nat}(hk:k<n)(h:oJ L id k)(h1:(stA L k).1=id):atV L n id=(stA L k).2:=by
 unfold atV
 have:(List.range n).find? (fun j=>decide ((stA L j).1=id))=some k:=by
  rw[List.find?_range_eq_some];exact⟨by simp[h1],List.mem_range.2 hk,fun j hj=>by simp[h j hj]⟩
 rw[this]
theorem tI{L:List St}{k:Nat}(h:oJ L id k)(h1:(stA L k).1≠id):oJ L id (k+1):=by
 intro j hj;by_cases e:j=k
 ·rw[e];exact h1
 ·exact h j (by omega)
def rO(L:List St)(id:Int):Int×Int×Int:=if bc L=true then atV L L.length id else (0,0,0)
def vQ(v:Int×Int×Int):Value:=.agg #[J Z v.1,J Z v.2.1,J Z v.2.2]
theorem oE(L:List St)(n:Nat)(id:Int)(a:Option Addr)(c:Nat)(w:World)(hn:n≤1048576)(hS:aZ w a L n):
  Calls Tryz.prog 56 #[.slice a n c,J Z id] w fun e w'=>e=.returned (vQ (atV L n id))∧Below w.heap.size w w':=by
 rcases hS with rfl | ⟨b,o,rfl,hb,hc⟩
 ·have HO:Hid (atV L 0 id=(0,0,0)):=yz (pO (fun j hj=>absurd hj (Nat.not_lt_zero _)));go_enter Tryz.func56,Tryz.ntmps56;go_wp2_with fail;refine wp_loop_rounds 1 ?_;rw[rounds_succ];go_wp2_with fail;exact bodyPost_ret (v:=.agg #[J Z 0,J Z 0,J Z 0]) (by simp[results,Tryz.results56,go_sem]) rfl ⟨by rw[yy HO];rfl,an _ _⟩
 go_enter Tryz.func56,Tryz.ntmps56;go_wp2_with fail;have hv:=aM w 0 0 0 72;have hf:=fe w 0 0 0 72;have hB:=an w (.cells #[J Z 0,J Z 0,J Z 0] 72);generalize w.alloc (.cells #[J Z 0,J Z 0,J Z 0] 72)=W at hv hf hB ⊢;have HC:Hid (∀i,i<n→oh W b (o+i*4) (stA L i)):=yz (fun i hi=>(hc i hi).kept hb hB);have HB:=yz hB;clear hc hB;obtain⟨v0,v1,v2⟩:=hv;obtain⟨f0,f1,f2⟩:=hf;go_loop [5] (fun i=>∃k:Nat,k≤n∧i=J Z k∧Hid (oJ L id k)) (fun i=>n-(intOf i).toNat)
 case atStart=>exact⟨0,by omega,rfl,yz (fun j hj=>absurd hj (Nat.not_lt_zero _))⟩
 case round=>
  obtain⟨k,hk,rfl,HF⟩:=hrel;by_cases hkn:k<n
  ·obtain⟨⟨s1,s2,s3,s4⟩,hs⟩:∃s,stA L k=s:=⟨_,rfl⟩
   have hst:=(yy HC) k hkn;rw[hs]at hst;obtain⟨c0,c1,c2,c3⟩:=hst;have HT:=yz hs;clear hs;by_cases hq:s1=id
   ·have HO:Hid (atV L n id=(s2,s3,s4)):=yz (by rw[yr hkn (yy HF) (by rw[yy HT];exact hq),yy HT]);have hq':(s1==id)=true:=by simp[hq]
    clear hq;go_wp2_with fail;exact bodyPost_ret (v:=.agg #[J Z s2,J Z s3,J Z s4]) (by simp[results,Tryz.results56,go_sem,v0,v1,v2]) rfl ⟨by rw[yy HO];rfl,bP (yy HB) (Nat.le_refl _) _ _ _⟩
   ·have HF2:=yz (tI (yy HF) (by rw[yy HT];exact hq));have hq':(s1==id)=false:=by simp[hq]
    clear hq;go_wp2_with fail;go_round
    case rel=>exact⟨k+1,by omega,by go_num,HF2⟩
    case measure=>simp[intOf];omega
  ·have hkn':k=n:=by omega
   subst hkn';have HO:=yz (pO (yy HF));go_wp2_with fail;exact bodyPost_ret (v:=.agg #[J Z 0,J Z 0,J Z 0]) (by simp[results,Tryz.results56,go_sem,v0,v1,v2]) rfl ⟨by rw[yy HO];rfl,bP (yy HB) (Nat.le_refl _) _ _ _⟩
theorem rN(L:List St)(id:Int)(a:Option Addr)(c:Nat)(p:Addr)(w:World)(hn:L.length≤1048576)(hcap:L.length≤c)(hc9:c≤9223372036854775807)(hS:aZ w a L L.length)(hE:bE p w):
  Calls Tryz.prog 146 #[.slice a L.length c,J Z id] w fun e w'=>e=.returned (vQ (rO L id))∧Below w.heap.size w w':=by
 have cS:=yz (fun (W:World) hW hE=>fz L a c p W hn hcap hc9 hW hE);have HS:=yz hS;have HE:=yz hE;clear hS hE;have HV:=yz (show rO L id=if bc L=true then atV L L.length id else (0,0,0) from rfl);generalize L.length=n at *;have V0:=yz (aM w 0 0 0 72);have F0:=yz (fe w 0 0 0 72);have B0:=yz (an w (.cells #[J Z 0,J Z 0,J Z 0] 72));go_enter Tryz.func146,Tryz.ntmps146;go_wp2_with fail;refine(yy cS _ ((yy HS).kept (yy B0)) ((yy HE).kept (yy B0))).mono ?_;rintro e w1 ⟨rfl,hx⟩;have HB:=ax B0 hx;have V1:=yz ((yy V0).kept (by simp) hx);have F1:=yz ((yy F0).kept (by simp) hx);clear hx V0 F0 B0;cases hk:bc L
 ·rw[hk]at HV;obtain⟨v0,v1,v2⟩:=yy V1;obtain⟨f0,f1,f2⟩:=yy F1;clear hk;go_wp2_with fail;exact bodyPost_ret (v:=.agg #[J Z 0,J Z 0,J Z 0]) (by simp[results,Tryz.results146,go_sem,v0,v1,v2]) rfl ⟨by rw[yy HV];rfl,bP (yy HB) (Nat.le_refl _) _ _ _⟩
 rw[hk]at HV;have HV':Hid (rO L id=atV L n id):=yz (by rw[yy HV];rfl);clear hk HV;rcases yy HS with rfl | ⟨b,o,rfl,hb,hc⟩
 ·have HO:Hid (atV L 0 id=(0,0,0)):=yz (pO (fun j hj=>absurd hj (Nat.not_lt_zero _)));obtain⟨v0,v1,v2⟩:=yy V1;obtain⟨f0,f1,f2⟩:=yy F1;go_wp2_with fail;refine wp_loop_rounds 1 ?_;rw[rounds_succ];go_wp2_with fail;exact bodyPost_ret (v:=.agg #[J Z 0,J Z 0,J Z 0]) (by simp[results,Tryz.results146,go_sem,v0,v1,v2]) rfl ⟨by rw[yy HV',yy HO];rfl,bP (yy HB) (Nat.le_refl _) _ _ _⟩
 have HC:=yz hc;clear hc;go_wp2_with fail;go_loopw [13] (fun i wr=>∃k:Nat,k≤n∧i=J Z k∧Hid (oJ L id k)∧Hid (Below w.heap.size w wr)∧Hid (aK wr w.heap.size 0 0 0)∧Hid (eA wr w.heap.size)) (fun i _=>n-(intOf i).toNat)
 case atStart=>exact⟨0,by omega,rfl,yz (fun j hj=>absurd hj (Nat.not_lt_zero _)),HB,V1,F1⟩
 case round=>
  clear HB V1 F1;obtain⟨k,hk,rfl,HF,HB,V1,F1⟩:=hrel;by_cases hkn:k<n
  ·obtain⟨⟨s1,s2,s3,s4⟩,hs⟩:∃s,stA L k=s:=⟨_,rfl⟩
   have hst:=((yy HC) k hkn).kept hb (yy HB);rw[hs]at hst;obtain⟨c0,c1,c2,c3⟩:=hst;have HT:=yz hs;clear hs;have B2:=yz ((yy HB).alloc (yy HB).size (.cells #[J Z s1,J Z s2,J Z s3,J Z s4] 74));have V2:=yz ((yy V1).kept (vlt (yy V1)) (an wr (.cells #[J Z s1,J Z s2,J Z s3,J Z s4] 74)));have F2:=yz ((yy F1).kept (vlt (yy V1)) (an wr (.cells #[J Z s1,J Z s2,J Z s3,J Z s4] 74)));obtain⟨v0,v1,v2⟩:=yy V2;obtain⟨f0,f1,f2⟩:=yy F2;by_cases hq:s1=id
   ·have HO:Hid (atV L n id=(s2,s3,s4)):=yz (by rw[yr hkn (yy HF) (by rw[yy HT];exact hq),yy HT]);have hq':(s1==id)=true:=by simp[hq]
    clear hq;go_wp2_with fail;exact bodyPost_ret (v:=.agg #[J Z s2,J Z s3,J Z s4]) (by simp[results,Tryz.results146,go_sem,v0,v1,v2]) rfl ⟨by rw[yy HV',yy HO];rfl,bP (yy B2) (Nat.le_refl _) _ _ _⟩
   ·have HF2:=yz (tI (yy HF) (by rw[yy HT];exact hq));have hq':(s1==id)=false:=by simp[hq]
    clear hq;go_wp2_with fail;go_roundw
    case rel=>exact⟨k+1,by omega,by go_num,HF2,B2,V2,F2⟩
    case measure=>simp[intOf];omega
  ·have hkn':k=n:=by omega
   subst hkn';have HO:=yz (pO (yy HF));obtain⟨v0,v1,v2⟩:=yy V1;obtain⟨f0,f1,f2⟩:=yy F1;go_wp2_with fail;exact bodyPost_ret (v:=.agg #[J Z 0,J Z 0,J Z 0]) (by simp[results,Tryz.results146,go_sem,v0,v1,v2]) rfl ⟨by rw[yy HV',yy HO];rfl,bP (yy HB) (Nat.le_refl _) _ _ _⟩
end
section
open Go.RowKit Go.Sort
abbrev V3:=Int×Int×Int
def yn(w:World)(b:Nat)(x y:Int):Prop:=w.cell? ⟨b,0,none⟩=some (.int .i64 x)∧w.cell? ⟨b,1,none⟩=some (.int .i64 y)
theorem yn.kept{w w':World}{b:Nat}{x y:Int}(h:yn w b x y)(hB:Below w.heap.size w w'):yn w' b x y:=by
 have hb:=World.block_lt_of_cell? w _ h.1;exact⟨by rw[hB.cell (p:=⟨b,0,none⟩) hb];exact h.1,by rw[hB.cell (p:=⟨b,1,none⟩) hb];exact h.2⟩
end
section
open Go.Value renaming int → J
open Go.IntKind renaming i64 → Z
open Go.RowKit
variable {X:Prop} {w w1 wn wx wy:World}
theorem aK.lt'{b:Nat}{x y z:Int}(h:aK w b x y z):b<w.heap.size:=World.block_lt_of_cell? w _ h.1
theorem Ec(hx:Below wx.heap.size wx wn)(h:X∧Below w1.heap.size w1 wx):Below w1.heap.size w1 wn:=ak h.2 hx
def AC(w:World)(b:Nat):Prop:=aK w b 0 0 0∧eA w b
theorem Gb{t:TypeId}(hx:Below (wy.alloc (.cells #[J Z 0,J Z 0,J Z 0] t)).heap.size (wy.alloc (.cells #[J Z 0,J Z 0,J Z 0] t)) wn):AC wn wy.heap.size:=
 ⟨(aM wy 0 0 0 t).kept (by simp) hx,(fe wy 0 0 0 t).kept (by simp) hx⟩
theorem EU{t:TypeId}(hx:Below ((wy.alloc (.cells #[J Z 0,J Z 0,J Z 0] t)).drew).heap.size ((wy.alloc (.cells #[J Z 0,J Z 0,J Z 0] t)).drew) wn):AC wn wy.heap.size:=
 ⟨(show aK (wy.alloc (.cells #[J Z 0,J Z 0,J Z 0] t)).drew wy.heap.size 0 0 0 from aM wy 0 0 0 t).kept (by simp) hx,(show eA (wy.alloc (.cells #[J Z 0,J Z 0,J Z 0] t)).drew wy.heap.size from fe wy 0 0 0 t).kept (by simp) hx⟩
theorem EM{b:Nat}(h:AC wx b)(hx:Below wx.heap.size wx wn):AC wn b:=⟨h.1.kept (aK.lt' h.1) hx,h.2.kept (aK.lt' h.1) hx⟩
theorem rR(h:Below w1.heap.size w1 wx)(o:Obj):Below w1.heap.size w1 (wx.alloc o):=h.alloc h.size _
theorem zK{b:Nat}(h:AC w b)(x y z:Int):aK (((w.setCell ⟨b,0,none⟩ (J Z x)).setCell ⟨b,1,none⟩ (J Z y)).setCell ⟨b,2,none⟩ (J Z z)) b x y z:=by
 obtain⟨⟨h0,h1,h2⟩,_⟩:=h;refine⟨?_,?_,?_⟩<;>simp[go_sem,h0,h1,h2]
theorem wl{b:Nat}(h:Below w1.heap.size w1 wx)(hb:w1.heap.size≤b)(x y z:Value):Below w1.heap.size w1 (((wx.setCell ⟨b,0,none⟩ x).setCell ⟨b,1,none⟩ y).setCell ⟨b,2,none⟩ z):=((h.setCell hb _).setCell hb _).setCell hb _
theorem BT(h:X∧Below w1.heap.size w1 wx)(o:Obj):Below w1.heap.size w1 (wx.alloc o):=h.2.alloc h.2.size _
theorem Ed{b:Nat}(h:X∧Below w1.heap.size w1 wx)(hb:w1.heap.size≤b)(x y z:Value):Below w1.heap.size w1 (((wx.setCell ⟨b,0,none⟩ x).setCell ⟨b,1,none⟩ y).setCell ⟨b,2,none⟩ z):=((h.2.setCell hb _).setCell hb _).setCell hb _
end
section
open Go.RowKit Go.Sort
abbrev P2:=Int×Int
abbrev Sp:=P2×V3×V3
def yo(w:World)(b:Nat)(x y a1 a2 a3 b1 b2 b3:Int):Prop:=w.cell? ⟨b,0,none⟩=some (.int .i64 x)∧w.cell? ⟨b,1,none⟩=some (.int .i64 y)∧w.cell? ⟨b,2,none⟩=some (.int .i64 a1)∧w.cell? ⟨b,3,none⟩=some (.int .i64 a2)∧w.cell? ⟨b,4,none⟩=some (.int .i64 a3)∧w.cell? ⟨b,5,none⟩=some (.int .i64 b1)∧w.cell? ⟨b,6,none⟩=some (.int .i64 b2)∧w.cell? ⟨b,7,none⟩=some (.int .i64 b3)
theorem yo.kept{w w':World}{b:Nat}{x y a1 a2 a3 b1 b2 b3:Int}(h:yo w b x y a1 a2 a3 b1 b2 b3)(hB:Below w.heap.size w w'):yo w' b x y a1 a2 a3 b1 b2 b3:=by
 have hb:=World.block_lt_of_cell? w _ h.1;obtain⟨h0,h1,h2,h3,h4,h5,h6,h7⟩:=h;exact⟨by rw[hB.cell (p:=⟨b,0,none⟩) hb];exact h0,by rw[hB.cell (p:=⟨b,1,none⟩) hb];exact h1,by rw[hB.cell (p:=⟨b,2,none⟩) hb];exact h2,by rw[hB.cell (p:=⟨b,3,none⟩) hb];exact h3,by rw[hB.cell (p:=⟨b,4,none⟩) hb];exact h4,by rw[hB.cell (p:=⟨b,5,none⟩) hb];exact h5,by rw[hB.cell (p:=⟨b,6,none⟩) hb];exact h6,by rw[hB.cell (p:=⟨b,7,none⟩) hb];exact h7⟩
def Cl(w:World)(b o:Nat)(s:Sp):Prop:=w.cell? ⟨b,o,none⟩=some (.int .i64 s.1.1)∧w.cell? ⟨b,o+1,none⟩=some (.int .i64 s.1.2)∧w.cell? ⟨b,o+2,none⟩=some (.int .i64 s.2.1.1)∧w.cell? ⟨b,o+3,none⟩=some (.int .i64 s.2.1.2.1)∧w.cell? ⟨b,o+4,none⟩=some (.int .i64 s.2.1.2.2)∧w.cell? ⟨b,o+5,none⟩=some (.int .i64 s.2.2.1)∧w.cell? ⟨b,o+6,none⟩=some (.int .i64 s.2.2.2.1)∧w.cell? ⟨b,o+7,none⟩=some (.int .i64 s.2.2.2.2)
theorem Cl.kept{w w':World}{b o:Nat}{s:Sp}(h:Cl w b o s)(hB:Below w.heap.size w w'):Cl w' b o s:=by
 have hb:b<w.heap.size:=World.block_lt_of_cell? w _ h.1;obtain⟨h0,h1,h2,h3,h4,h5,h6,h7⟩:=h;exact⟨by rw[hB.cell (p:=⟨b,o,none⟩) hb];exact h0,by rw[hB.cell (p:=⟨b,o+1,none⟩) hb];exact h1,by rw[hB.cell (p:=⟨b,o+2,none⟩) hb];exact h2,by rw[hB.cell (p:=⟨b,o+3,none⟩) hb];exact h3,by rw[hB.cell (p:=⟨b,o+4,none⟩) hb];exact h4,by rw[hB.cell (p:=⟨b,o+5,none⟩) hb];exact h5,by rw[hB.cell (p:=⟨b,o+6,none⟩) hb];exact h6,by rw[hB.cell (p:=⟨b,o+7,none⟩) hb];exact h7⟩
theorem Gz{L:List St}{i:Nat}(h:eV L i=true)(hi:0<i):(stA L (i-1)).1<(stA L i).1:=by
 unfold eV upB at h;simp only[Bool.and_eq_true,Bool.or_eq_true,decide_eq_true_eq]at h;omega
theorem wM{L:List St}(h:bc L=true):∀i,i<L.length→∀j,j<i→(stA L j).1<(stA L i).1
 | 0,_,j,hj=>absurd hj (Nat.not_lt_zero _)
 | i+1,hi,j,hj=>by
  have hu:=Gz ((cg h).2 (i+1) hi) (by omega);rw[Nat.add_sub_cancel]at hu;by_cases e:j=i
  ·subst e;exact hu
  ·have:=wM h i (by omega) j (by omega);omega
theorem uk{L:List St}(h:bc L=true){i:Nat}(hi:i<L.length):atV L L.length (stA L i).1=(stA L i).2:=
 yr hi (fun j hj e=>by have:=wM h i hi j hj;omega) rfl
end
section
open Go.RowKit
end
section
open Go.RowKit Go.Sort
end
section
open Go.RowKit
end
end Go.Proofs.YtdchjcadhlkpfaaGreatDoor
