/- Several texts in one: ReadE, ReadF, SkyL, ReadG, GetText2, ObM, BlM, IdW, PairA, PairB, PairC, PairD, PairE, PairF, PairM, PairN, TsD, TurnO, DecT, CmW, Handle. -/
import Derived.Deep.Slices
import Derived.Deep.Strs
import Derived.LaidHandle
import Derived.LaidMore
import Derived.ProofKit
import Derived.Lib.ItoaMem
import Derived.Lib.ItoaNum
import Derived.Stop.LaidErr
import Derived.Lib.SmallJoins
import Derived.ShutString
import Derived.ChangeSame
import Derived.ChangeVars
import Derived.JoinedOf
import Derived.RowKit
import Derived.LaidLaws
import Derived.Stop.Joined
import Derived.Test.YteoonaanoenjiaaGreatDoorL13
import Derived.Test.YteoonaanoenjiaaGreatDoorL12
import Derived.Test.YteoonaanoenjiaaGreatDoorL9
namespace Go.Proofs.YteoonaanoenjiaaGreatDoor
set_option linter.unusedVariables false
set_option linter.unusedSimpArgs false
set_option maxRecDepth 100000
set_option maxHeartbeats 8000000
section
open Go.Value renaming int → J
open Go.IntKind renaming i64 → Z
open Go.RowKit Go.Sort
variable {s t:ByteArray} {b q:Nat} {w w':World}
theorem oW{p:Nat}:∀(k i u:Nat) {c:Int},de s p k i u=.error c→c=3∨c=4
 | 0,i,u,c,h=>by simp[de]at h;exact .inl h.symm
 | k+1,i,u,c,h=>by
  rw[de]at h;split at h
  ·exact .inr (Except.error.inj h).symm
  ·split at h
   ·exact .inl (Except.error.inj h).symm
   ·split at h
    ·split at h
     ·exact .inl (Except.error.inj h).symm
     ·cases h
    ·exact oW k (i+1) _ h
theorem EU(hs:s.size≤8000):∃x y z:Int,kr s (q:Int)=.agg #[J Z x,J Z y,J Z z] ∧
  ((aO s q=none∧z≠0)∨∃n q',aO s q=some (n,q')∧x=n∧y=(q':Int)∧z=0):=by
 have e:co s (q:Int)=de s q 10 0 0:=by unfold co;rw[if_neg (by omega)];rfl
 unfold kr aO;rw[if_neg (by omega),e];cases h:de s q 10 0 0 with
 | error c=>exact⟨0,0,c,rfl,.inl ⟨rfl,by have:=oW 10 0 0 h;omega⟩⟩
 | ok x=>exact⟨_,_,0,rfl,.inr ⟨_,_,rfl,rfl,rfl,rfl⟩⟩
def eU(w:World)(b:Nat)(t:ByteArray)(q:Nat)(bad:Bool):Prop:=w.cell? ⟨b,0,none⟩=some (.string t)∧w.cell? ⟨b,1,none⟩=some (J Z (q:Int))∧w.cell? ⟨b,2,none⟩=some (.bool bad)∧w.frozen? ⟨b,1,none⟩=false∧w.frozen? ⟨b,2,none⟩=false
theorem eU.lt{bad:Bool}(h:eU w b t q bad):b<w.heap.size:=World.block_lt_of_cell? w _ h.1
theorem eU.kept{bad:Bool}(h:eU w b t q bad)(hB:Below w.heap.size w w'):eU w' b t q bad:=by
 have hb:=h.lt;obtain⟨h0,h1,h2,f1,f2⟩:=h;exact⟨by rw[hB.cell (p:=⟨b,0,none⟩) hb];exact h0,by rw[hB.cell (p:=⟨b,1,none⟩) hb];exact h1,by rw[hB.cell (p:=⟨b,2,none⟩) hb];exact h2,by rw[hB.frozen (p:=⟨b,1,none⟩) hb];exact f1,by rw[hB.frozen (p:=⟨b,2,none⟩) hb];exact f2⟩
theorem eU.grown{bad:Bool}{row:Option Nat}(h:eU w b t q bad)(hg:w.grownBy w' row)(hne:some b≠row):eU w' b t q bad:=by
 have hb:=h.lt;obtain⟨h0,h1,h2,f1,f2⟩:=h;have e:=hg.block b hb hne;exact⟨hg.cell h0 hne,hg.cell h1 hne,hg.cell h2 hne,by rw[World.frozen?_of_block (w:=w) e];exact f1,by rw[World.frozen?_of_block (w:=w) e];exact f2⟩
theorem eU.bad{bad:Bool}(h:eU w b t q bad)(y:Bool):eU (w.setCell ⟨b,2,none⟩ (.bool y)) b t q y:=by
 obtain⟨h0,h1,h2,f1,f2⟩:=h;refine⟨?_,?_,?_,?_,?_⟩
 ·go_simp
 ·go_simp
 ·go_simp
 ·simp only[World.frozen?_setCell];exact f1
 ·simp only[World.frozen?_setCell];exact f2
theorem eU.at{bad:Bool}(h:eU w b t q bad)(q':Nat):eU (w.setCell ⟨b,1,none⟩ (J Z (q':Int))) b t q' bad:=by
 obtain⟨h0,h1,h2,f1,f2⟩:=h;refine⟨?_,?_,?_,?_,?_⟩
 ·go_simp
 ·go_simp
 ·go_simp
 ·simp only[World.frozen?_setCell];exact f1
 ·simp only[World.frozen?_setCell];exact f2
def aK(t:ByteArray)(q:Nat)(bad:Bool):Int×Nat×Bool:=if bad=true then (0,q,true) else match aO t q with | none=>(0,q,true) | some (n,q')=>(n,q',false)
theorem mC{wr wx:World}{bad:Bool}(hr:eU wr b t q bad)(h:Below wr.heap.size wr wx):
  (wx.cell? ⟨b,0,none⟩=some (.string t)∧wx.cell? ⟨b,1,none⟩=some (J Z (q:Int)))∧Below wr.heap.size wr wx:=⟨⟨(hr.kept h).1,(hr.kept h).2.1⟩,h⟩
theorem nM(b:Nat)(t:ByteArray)(q:Nat)(bad:Bool)(w:World)(ht:t.size≤8000)(hq:q≤8000)(hR:eU w b t q bad):
  Calls Tryz.prog 85 #[.pointer (some ⟨b,0,none⟩)] w fun e w'=>e=.returned (J Z (aK t q bad).1)∧eU w' b t (aK t q bad).2.1 (aK t q bad).2.2∧w.grownBy w' (some b):=by
 have HR:=yz hR;clear hR;obtain⟨x,y,z,hg,hz⟩:=EU (q:=q) ht;have HZ:=yz hz;have cG:Hid (∀W:World,Calls Tryz.prog 83 #[.string t,J Z (q:Int)] W fun e w'=>e=.returned (.agg #[J Z x,J Z y,J Z z])∧Below W.heap.size W w'):=yz (fun W=>(iY t (q:Int) W (by omega) (by omega)).mono fun e w' h=>⟨by rw[h.1,hg],h.2⟩);clear hg hz;go_enter Tryz.func85,Tryz.ntmps85;go_wp2_with fail;go_cut [3] (fun s wx=>∃bb,s=.pointer (some ⟨bb,0,none⟩)∧aD wx bb x y z∧Below w.heap.size w wx)
 case first=>
  go_region_held (fun w'=>(w'.cell? ⟨b,0,none⟩=some (.string t)∧w'.cell? ⟨b,1,none⟩=some (J Z (q:Int)))∧Below w.heap.size w w') (first | exact mC (yx HR) (Below.refl _ _).drew | exact mC (yx HR) (vp (by assumption) _) | exact mC (yx HR) (by assumption) | exact mC (yx HR) (kD (by assumption) _) | exact mC (yx HR) (zm (by assumption) (by first | exact Nat.le_refl _ | exact Below.size (by assumption)) _ _ _)) ((go_at_call 83;refine(yx cG _).mono ?_;rintro e wn ⟨rfl,hx⟩;have hw:=zh (w1:=w) hx (by assumption);first | (have hr:Cz wn w.heap.size:=Hx hx;have hr2:=hr;obtain⟨⟨r0,r1,r2⟩,f0,f1,f2⟩:=hr2) | (have hr:=Jy hx;have hr2:=hr;obtain⟨⟨r0,r1,r2⟩,f0,f1,f2⟩:=hr2) | (have hr:=Ht (by assumption) hx;have hr2:=hr;obtain⟨⟨r0,r1,r2⟩,f0,f1,f2⟩:=hr2) | skip))
  all_goals (go_wp2_with fail;go_meet;refine⟨_,rfl,?_,?_⟩)
  all_goals first | (with_reducible exact aG _ _ _ _ _) | (with_reducible exact kD (by assumption) _) | (with_reducible exact Bk (by assumption) _ _ _) | (with_reducible exact pp (by assumption) (by first | exact Nat.le_refl _ | exact Below.size (by assumption)) _ _ _) | trace_state
 case rest=>
  obtain⟨bb,rfl,v5,hx⟩:=hcut;have R2:=an HR hx;have G2:=yz (rI (b:=b) hx);obtain⟨v0,v1,v2⟩:=v5;obtain⟨c0,c1,c2,f1,f2⟩:=yx R2;clear hx cG;cases bad
  ·rcases yx HZ with ⟨hn,hz⟩ | ⟨n,q',hn,rfl,rfl,rfl⟩
   ·have HV:Hid (aK t q false=(0,q,true)):=yz (by unfold aK;rw[hn];rfl);have hz':(z==0)=false:=by simp[hz]
    have hz2:(z != 0)=true:=by simp[hz]
    clear hn;go_wp2_with fail;go_ret;exact⟨by rw[yx HV];rfl,by rw[yx HV];exact(yx R2).bad true,dv (yx G2) _ _⟩
   ·have HV:Hid (aK t q false=(x,q',false)):=yz (by unfold aK;rw[hn];rfl);clear hn;go_wp2_with fail;go_ret;exact⟨by rw[yx HV];rfl,by rw[yx HV];exact(yx R2).at q',dv (yx G2) _ _⟩
  ·have HV:Hid (aK t q true=(0,q,true)):=yz rfl;go_wp2_with fail;go_ret;exact⟨by rw[yx HV];rfl,by rw[yx HV];exact(yx R2).bad true,dv (yx G2) _ _⟩
def nJ(t:ByteArray)(q:Nat)(bad:Bool)(most:Int):Int×Nat×Bool:=
  if 0≤(aK t q bad).1∧(aK t q bad).1≤most then aK t q bad else (0,(aK t q bad).2.1,true)
theorem Fk(b:Nat)(t:ByteArray)(q:Nat)(bad:Bool)(most:Int)(w:World)(ht:t.size≤8000)(hq:q≤8000)(hR:eU w b t q bad):
    Calls Tryz.prog 86 #[.pointer (some ⟨b,0,none⟩),J Z most] w fun e w'=>e=.returned (J Z (nJ t q bad most).1)∧eU w' b t (nJ t q bad most).2.1 (nJ t q bad most).2.2∧w.grownBy w' (some b):=by
  have cN:=yz (nM b t q bad w ht hq hR);have HM:Hid (nJ t q bad most=if 0≤(aK t q bad).1∧(aK t q bad).1≤most then aK t q bad else (0,(aK t q bad).2.1,true)):=yz rfl;clear hR;generalize nJ t q bad most=mv at *;generalize aK t q bad=nv at *;obtain⟨n,q',bad'⟩:=nv;go_enter Tryz.func86,Tryz.ntmps86;go_wp2_with fail;refine(yx cN).mono ?_;rintro e w1 ⟨rfl,hr,hg⟩;have R1:=yz hr;have G1:=yz hg;clear hr hg cN;go_wp2_with fail;refine(bp n 0 most _).mono ?_;rintro e w2 ⟨rfl,hw⟩;rw[hw];clear hw w2;obtain⟨c0,c1,c2,f1,f2⟩:=yx R1;by_cases h:0≤n∧n≤most
  · rw[if_pos h]at HM
    have hd:(decide (0≤n)&&decide (n≤most))=true:=by simp[h.1,h.2]
    rw[hd];go_wp2_with fail;go_ret;exact⟨by rw[yx HM];rfl,by rw[yx HM];exact yx R1,yx G1⟩
  · rw[if_neg h]at HM
    have hd:(decide (0≤n)&&decide (n≤most))=false:=by
      rw[Bool.and_eq_false_iff,decide_eq_false_iff_not,decide_eq_false_iff_not];omega
    rw[hd];go_wp2_with fail;go_ret;exact⟨by rw[yx HM];rfl,by rw[yx HM];exact(yx R1).bad true,dv (yx G1) _ _⟩
def fS(t:ByteArray)(q:Nat)(bad:Bool):(Int×Int×Int)×Nat×Bool:=
  ((( aK t q bad).1,(aK t (aK t q bad).2.1 (aK t q bad).2.2).1,(aK t (aK t (aK t q bad).2.1 (aK t q bad).2.2).2.1 (aK t (aK t q bad).2.1 (aK t q bad).2.2).2.2).1),
   (aK t (aK t (aK t q bad).2.1 (aK t q bad).2.2).2.1 (aK t (aK t q bad).2.1 (aK t q bad).2.2).2.2).2)
variable {t:ByteArray} {x y z:Int} {b c i q:Nat} {v:Value} {w w':World}
theorem aD.grownF{row:Option Nat}(h:aD w b x y z)(hg:w.grownBy w' row)(hne:some b≠row):aD w' b x y z:=
  ⟨hg.cell h.1 hne,hg.cell h.2.1 hne,hg.cell h.2.2 hne⟩
theorem dE.grownF{row:Option Nat}(h:dE w b)(hb:b<w.heap.size)(hg:w.grownBy w' row)(hne:some b≠row):dE w' b:=by
  have e:=hg.block b hb hne;exact⟨by rw[World.frozen?_of_block (w:=w) e];exact h.1,by rw[World.frozen?_of_block (w:=w) e];exact h.2.1,by rw[World.frozen?_of_block (w:=w) e];exact h.2.2⟩
theorem jn{bad:Bool}(ht:t.size≤8000)(hq:q≤8000):(aK t q bad).2.1≤8000:=by
  unfold aK;split
  · exact hq
  · cases h:aO t q with
    | none=>exact hq
    | some x=>exact Nat.le_trans (aT (n:=x.1) (q:=x.2) (by rw[h])).2 ht
theorem eU.set{bad:Bool}(h:eU w b t q bad)(hne:c≠b):eU (w.setCell ⟨c,i,none⟩ v) b t q bad:=by
  obtain⟨h0,h1,h2,f1,f2⟩:=h;have hn:b≠c:=fun e=>hne e.symm;refine⟨?_,?_,?_,?_,?_⟩
  · rw[World.cell?_setCell_far _ _ _ _ hne];exact h0
  · rw[World.cell?_setCell_far _ _ _ _ hne];exact h1
  · rw[World.cell?_setCell_far _ _ _ _ hne];exact h2
  · simp only[World.frozen?_setCell];exact f1
  · simp only[World.frozen?_setCell];exact f2
theorem nB{w1:World}{row:Option Nat}(h:w.grownBy w1 row)(hc:w.heap.size≤c):w.grownBy (w1.setCell ⟨c,i,none⟩ v) row:=
  ⟨h.os,h.tape,h.output,by simpa using h.size,fun k hk hn=>by rw[Below.heap_setCell _ _ _ _ (show k≠c by omega)];exact h.block k hk hn⟩
theorem aD.set1(h:aD w b x y z)(u:Int):aD (w.setCell ⟨b,1,none⟩ (J Z u)) b x u z:=by
  obtain⟨h0,h1,h2⟩:=h;refine⟨?_,?_,?_⟩<;>simp[go_sem,h0,h1,h2]
theorem aD.far(h:aD w b x y z)(hn:c≠b):aD (w.setCell ⟨c,i,none⟩ v) b x y z:=
  ⟨by rw[World.cell?_setCell_far _ _ _ _ hn];exact h.1,by rw[World.cell?_setCell_far _ _ _ _ hn];exact h.2.1,by rw[World.cell?_setCell_far _ _ _ _ hn];exact h.2.2⟩
theorem dE.set{a:Addr}(h:dE w b):dE (w.setCell a v) b:=by
  unfold dE;simp only[World.frozen?_setCell];exact h
theorem DN(b:Nat)(t:ByteArray)(q:Nat)(bad:Bool)(w:World)(ht:t.size≤8000)(hq:q≤8000)(hR:eU w b t q bad):
    Calls Tryz.prog 87 #[.pointer (some ⟨b,0,none⟩)] w fun e w'=>e=.returned (.agg #[J Z (fS t q bad).1.1,J Z (fS t q bad).1.2.1,J Z (fS t q bad).1.2.2])∧eU w' b t (fS t q bad).2.1 (fS t q bad).2.2∧w.grownBy w' (some b):=by
  have hb:=yz hR.lt;have HV:Hid (fS t q bad=fS t q bad):=yz rfl;generalize e0:fS t q bad=vv at HV ⊢;unfold fS at e0;have l1:=jn (bad:=bad) ht hq;have R0:=yz (hR.kept (ak w (.cells #[J Z 0,J Z 0,J Z 0] 111)));have c1:=yz (nM b t q bad (w.alloc (.cells #[J Z 0,J Z 0,J Z 0] 111)) ht hq (yx R0));have G0:Hid (w.grownBy (w.alloc (.cells #[J Z 0,J Z 0,J Z 0] 111)) (some b)):=yz (rI (ak w _));have A0:=yz (aG w 0 0 0 111);have F0:=yz (em w 0 0 0 111);clear hR R0 HV;generalize aK t q bad=n1 at *;obtain⟨x,q1,bad1⟩:=n1;simp only at l1 e0;have l2:=jn (bad:=bad1) ht l1;have hne:Hid (some w.heap.size≠some b):=yz (by have:=yx hb;simp;omega);go_enter Tryz.func87,Tryz.ntmps87;go_wp2_with fail;refine(yx c1).mono ?_;rintro e w1 ⟨rfl,hr,hg⟩;have G1:=yz (nC (yx G0) hg);have A1:=yz ((yx A0).grownF hg (yx hne));have F1:=yz ((yx F0).grownF (by simp) hg (yx hne));have R1:=yz hr;clear hr hg c1 G0 A0 F0;have hc:b<w1.heap.size:=(yx R1).lt;have ha:w.heap.size<w1.heap.size:=aD.lt' (yx A1);have Z2:=yz (ak w1 (.cells #[J Z x,J Z 0,J Z 0] 111));have R2:=an R1 (yx Z2);have G2:=yz (nC (yx G1) (rI (b:=b) (yx Z2)));have A2:=yz ((yx A1).kept ha (yx Z2));have F2:=yz ((yx F1).kept ha (yx Z2));have V2:=yz (aG w1 x 0 0 111);have U2:=yz (em w1 x 0 0 111);have hlt:w1.heap.size<(w1.alloc (.cells #[J Z x,J Z 0,J Z 0] 111)).heap.size:=aD.lt' (yx V2);clear R1 G1 A1 F1 Z2;go_wp2_with fail;generalize w1.alloc (.cells #[J Z x,J Z 0,J Z 0] 111)=W2 at *;generalize w1.heap.size=c at *;have c2:=yz (nM b t q1 bad1 W2 ht l1 (yx R2));generalize aK t q1 bad1=n2 at *;obtain⟨y,q2,bad2⟩:=n2;simp only at l2 e0;have hnc:Hid (some c≠some b):=yz (by simp;omega);refine(yx c2).mono ?_;rintro e w3 ⟨rfl,hr,hg⟩;have G3:=yz (nB (c:=c) (i:=1) (v:=J Z y) (nC (yx G2) hg) (by omega));have A3:=yz (((yx A2).grownF hg (yx hne)).far (c:=c) (i:=1) (v:=J Z y) (by omega));have F3:=yz (((yx F2).grownF (by omega) hg (yx hne)).set (a:=⟨c,1,none⟩) (v:=J Z y));obtain⟨v0,v1,v2⟩:=(yx V2).grownF hg (yx hnc);obtain⟨u0,u1,u2⟩:=(yx U2).grownF (by omega) hg (yx hnc);have V3:=yz (((yx V2).grownF hg (yx hnc)).set1 y);have U3:=yz (((yx U2).grownF (by omega) hg (yx hnc)).set (a:=⟨c,1,none⟩) (v:=J Z y));have R3:=yz (hr.set (c:=c) (i:=1) (v:=J Z y) (by omega));clear hr hg c2 G2 A2 F2 V2 U2 R2;go_wp2_with fail;clear v0 v1 v2 u0 u1 u2;generalize w3.setCell ⟨c,1,none⟩ (J Z y)=W3 at *;have c3:=yz (nM b t q2 bad2 W3 ht l2 (yx R3));generalize aK t q2 bad2=n3 at *;obtain⟨z,q3,bad3⟩:=n3;simp only at e0;subst e0;have hl3:c<W3.heap.size:=aD.lt' (yx V3);have hm3:w.heap.size<W3.heap.size:=aD.lt' (yx A3);refine(yx c3).mono ?_;rintro e w4 ⟨rfl,hr,hg⟩;have G4:=yz (nB (c:=c) (i:=2) (v:=J Z z) (nC (yx G3) hg) (by omega));obtain⟨a0,a1,a2⟩:=(yx A3).grownF hg (yx hne);obtain⟨f0,f1,f2⟩:=(yx F3).grownF hm3 hg (yx hne);obtain⟨v0,v1,v2⟩:=(yx V3).grownF hg (yx hnc);obtain⟨u0,u1,u2⟩:=(yx U3).grownF hl3 hg (yx hnc);have R4:=yz (hr.set (c:=c) (i:=2) (v:=J Z z) (by omega));have hca:Hid (c≠w.heap.size):=yz (by omega);have hb':=yx hb;clear hr hg c3 G3 A3 F3 V3 U3 R3;have n0:w.heap.size≠c:=by omega
  go_wp2_with fail;exact bodyPost_ret (v:=.agg #[J Z x,J Z y,J Z z]) (by simp[results,Tryz.results87,go_sem,a0,a1,a2]) rfl ⟨rfl,(((yx R4).set (by omega)).set (by omega)).set (by omega),nB (nB (nB (yx G4) (by omega)) (by omega)) (by omega)⟩
end
section
open Go.RowKit Go.Sort
theorem Kk(t:ByteArray)(q:Nat):(dQ t q=none∧(fS t (aK t q false).2.1 (aK t q false).2.2).2.2=true) ∨
  (dQ t q=some (((aK t q false).1,(fS t (aK t q false).2.1 (aK t q false).2.2).1.1,(fS t (aK t q false).2.1 (aK t q false).2.2).1.2.1,(fS t (aK t q false).2.1 (aK t q false).2.2).1.2.2),(fS t (aK t q false).2.1 (aK t q false).2.2).2.1)∧(fS t (aK t q false).2.1 (aK t q false).2.2).2.2=false):=by
 unfold dQ;cases h1:aO t q with
 | none=>
  have e1:aK t q false=(0,q,true):=by unfold aK;rw[h1];rfl
  exact .inl ⟨rfl,by rw[e1];rfl⟩
 | some a=>
  obtain⟨a,p1⟩:=a;have e1:aK t q false=(a,p1,false):=by unfold aK;rw[h1];rfl
  rw[e1];simp only[fS];cases h2:aO t p1 with
  | none=>
   have e2:aK t p1 false=(0,p1,true):=by unfold aK;rw[h2];rfl
   exact .inl ⟨rfl,by rw[e2];rfl⟩
  | some b=>
   obtain⟨b,p2⟩:=b;have e2:aK t p1 false=(b,p2,false):=by unfold aK;rw[h2];rfl
   rw[e2];simp only;cases h3:aO t p2 with
   | none=>
    have e3:aK t p2 false=(0,p2,true):=by unfold aK;rw[h3];rfl
    exact .inl ⟨rfl,by rw[e3];rfl⟩
   | some c=>
    obtain⟨c,p3⟩:=c;have e3:aK t p2 false=(c,p3,false):=by unfold aK;rw[h3];rfl
    rw[e3];simp only;cases h4:aO t p3 with
    | none=>
     have e4:aK t p3 false=(0,p3,true):=by unfold aK;rw[h4];rfl
     exact .inl ⟨rfl,by rw[e4]⟩
    | some d=>
     obtain⟨d,p4⟩:=d;have e4:aK t p3 false=(d,p4,false):=by unfold aK;rw[h4];rfl
     exact .inr ⟨by rw[e4],by rw[e4]⟩
variable {t:ByteArray} {b q:Nat} {w w':World}
theorem Iy{bad:Bool}(ht:t.size≤8000)(hq:q≤8000):(fS t q bad).2.1≤8000:=
 jn ht (jn ht (jn ht hq))
theorem Fj{bad:Bool}{most:Int}(ht:t.size≤8000)(hq:q≤8000):(nJ t q bad most).2.1≤8000:=by
 unfold nJ;split
 ·exact jn ht hq
 ·exact jn ht hq
theorem Bx{wr w1:World}{rb:Nat}(h:Below w.heap.size w wr)(hg:wr.grownBy w1 (some rb))(hr:w.heap.size≤rb):Below w.heap.size w w1:=
 h.trans ⟨hg.os,hg.tape,hg.output,hg.size,fun k hk=>hg.block k (Nat.lt_of_lt_of_le hk h.size) (fun e=>by have:=Option.some.inj e;omega)⟩
theorem oo.grown{v:Value}{c:Int}{row:Option Nat}(h:oo w b v c)(hg:w.grownBy w' row)(hne:some b≠row):oo w' b v c:=⟨hg.cell h.1 hne,hg.cell h.2 hne⟩
theorem uj.grown{row:Option Nat}(h:uj w b)(hb:b<w.heap.size)(hg:w.grownBy w' row)(hne:some b≠row):uj w' b:=by
 have e:=hg.block b hb hne;exact⟨by rw[World.frozen?_of_block (w:=w) e];exact h.1,by rw[World.frozen?_of_block (w:=w) e];exact h.2⟩
theorem FU(w:World)(t:ByteArray)(ty:TypeId):eU (w.alloc (.cells #[.string t,.int .i64 0,.bool false] ty)) w.heap.size t 0 false:=by
 refine⟨?_,?_,?_,?_,?_⟩<;>simp
end
section
open Go.Value renaming int → J
open Go.IntKind renaming i64 → Z
open Go.RowKit
theorem yT{s:ByteArray}{p:Nat}:∀(k i u:Nat) (c:Int),de s p k i u=.error c→c=3∨c=4
 | 0,i,u,c,h=>by simp[de]at h;omega
 | k+1,i,u,c,h=>by
  rw[de]at h;split at h
  ·simp at h;omega
  ·split at h
   ·simp at h;omega
   ·split at h
    ·split at h
     ·simp at h;omega
     ·simp at h
    ·exact yT k (i+1) _ c h
theorem AR(s:ByteArray)(p:Int)(hs:s.size≤8000):∃(n q c:Int),kr s p=.agg #[J Z n,J Z q,J Z c] ∧
  ((c≠0∧bR s p=.error c)∨(c=0∧-9223372036854775808≤n∧n≤9223372036854775807∧0≤q∧q≤s.size ∧
   bR s p=if n<0∨8000<n then .error 3 else if (s.size:Int)-q<n then .error 4 else .ok (s.extract q.toNat (q.toNat+n.toNat),q.toNat+n.toNat))):=by
 rw[kr,if_neg (by omega)];cases hr:co s p with
 | error c=>
  refine⟨0,0,c,rfl,.inl ⟨?_,by unfold bR;rw[hr]⟩⟩;unfold co at hr;split at hr
  ·simp at hr;omega
  ·have:=yT 10 0 0 c hr;omega
 | ok x=>
  have hb:=mV hr;have hur:=vD x.1 hb.2;exact⟨unf x.1,(x.2:Int),0,rfl,.inr ⟨rfl,hur.1,hur.2,by omega,by omega,by unfold bR;rw[hr];simp⟩⟩
theorem nY(s:ByteArray)(p:Int)(w:World)(hs:s.size≤8000)(h1:p≤9223372036854775807):
  Calls Tryz.prog 45 #[.string s,J Z p] w fun e w'=>e=.returned (qR (bR s p))∧Below w.heap.size w w':=by
 obtain⟨n,q,c,hv,hr⟩:=AR s p hs;have HC:=yz (fun w=>(by have:=iY s p w (by omega) h1;rw[hv]at this;exact this:Calls Tryz.prog 83 #[.string s,J Z p] w fun e w'=>e=.returned (.agg #[J Z n,J Z q,J Z c])∧Below w.heap.size w w'));clear hv;rcases hr with ⟨hc,hr⟩ | ⟨rfl,hn1,hn2,hq0,hq1,hr⟩
 ·have HR:=yz hr;have hcb:(c != 0)=true:=by rw[bne_iff_ne];exact hc
  clear hr hc;go_enter Tryz.func45,Tryz.ntmps45;go_wp2_with fail;refine(yx HC _).mono ?_;rintro e w1 ⟨rfl,hb1⟩;obtain⟨c0,c1,c2,f0,f1,f2,hz,hB⟩:=sN hb1;clear hb1;go_wp2;exact bodyPost_ret (v:=.agg #[.string ⟨#[]⟩,J Z 0,J Z c]) (by simp[results,Tryz.results45,go_sem,c0,c1,c2,hz]) rfl ⟨by rw[yx HR];rfl,iL (((hB.setCell (by simp) _).setCell (by simp) _).setCell (by simp) _) (Nat.le_refl _) _⟩
 ·by_cases hn:n<0∨8000<n
  ·have HR:=yz (show bR s p=.error 3 by rw[hr,if_pos hn]);have hn2:n<0∨(0≤n∧8000<n):=by omega
   clear hr hn;rcases hn2 with hn0 | hn0
   all_goals
    go_enter Tryz.func45,Tryz.ntmps45;go_wp2_with fail;refine(yx HC _).mono ?_;rintro e w1 ⟨rfl,hb1⟩;obtain⟨c0,c1,c2,f0,f1,f2,hz,hB⟩:=sN hb1;clear hb1;go_wp2;exact bodyPost_ret (v:=.agg #[.string ⟨#[]⟩,J Z 0,J Z 3]) (by simp[results,Tryz.results45,go_sem,c0,c1,c2,hz]) rfl ⟨by rw[yx HR];rfl,iL (((hB.setCell (by simp) _).setCell (by simp) _).setCell (by simp) _) (Nat.le_refl _) _⟩
  ·have hn0:0≤n:=by omega
   have hn8:n≤8000:=by omega
   by_cases hsh:(s.size:Int)-q<n
   ·have HR:=yz (show bR s p=.error 4 by rw[hr,if_neg hn,if_pos hsh]);have hsh':(s.size:Int)-n<q:=by omega
    clear hr hn hsh;go_enter Tryz.func45,Tryz.ntmps45;go_wp2_with fail;refine(yx HC _).mono ?_;rintro e w1 ⟨rfl,hb1⟩;obtain⟨c0,c1,c2,f0,f1,f2,hz,hB⟩:=sN hb1;clear hb1;go_wp2;exact bodyPost_ret (v:=.agg #[.string ⟨#[]⟩,J Z 0,J Z 4]) (by simp[results,Tryz.results45,go_sem,c0,c1,c2,hz]) rfl ⟨by rw[yx HR];rfl,iL (((hB.setCell (by simp) _).setCell (by simp) _).setCell (by simp) _) (Nat.le_refl _) _⟩
   ·obtain⟨m,rfl⟩:∃m:Nat,n=(m:Int):=⟨n.toNat,by omega⟩
    obtain⟨b,rfl⟩:∃b:Nat,q=(b:Int):=⟨q.toNat,by omega⟩
    have HR:=yz (show bR s p=.ok (s.extract b (b+m),b+m) by rw[hr,if_neg hn,if_neg hsh];simp);have hsh':(b:Int)≤(s.size:Int)-(m:Int):=by omega
    have hqm:b+m≤s.size:=by omega
    have hqi:(b:Int)≤(b:Int)+(m:Int)∧(b:Int)+(m:Int)≤(s.size:Int):=by omega
    clear hr hn hsh;go_enter Tryz.func45,Tryz.ntmps45;go_wp2_with fail;refine(yx HC _).mono ?_;rintro e w1 ⟨rfl,hb1⟩;obtain⟨c0,c1,c2,f0,f1,f2,hz,hB⟩:=sN hb1;clear hb1;go_wp2;go_region
    go_wp2;exact bodyPost_ret (v:=.agg #[.string (s.extract b (b+m)),J Z ((b:Int)+(m:Int)),J Z 0]) (by simp[results,Tryz.results45,go_sem,c0,c1,c2,hz]) rfl ⟨by rw[yx HR];simp[qR],(iL (((hB.setCell (by simp) _).setCell (by simp) _).setCell (by simp) _) (Nat.le_refl _) _).drew⟩
theorem kM(s:ByteArray)(p:Int)(w:World)(hs:s.size≤1048576)(h1:p≤9223372036854775807):
  Calls Tryz.prog 45 #[.string s,J Z p] w fun e w'=>e=.returned (eo s p)∧Below w.heap.size w w':=by
 by_cases h8:8000<s.size
 ·rw[eo,if_pos h8];have HC:=yz (fun w=>(by have:=iY s p w hs h1;rw[kr,if_pos h8]at this;exact this:Calls Tryz.prog 83 #[.string s,J Z p] w fun e w'=>e=.returned (.agg #[J Z 0,J Z 0,J Z 2])∧Below w.heap.size w w'));go_enter Tryz.func45,Tryz.ntmps45;go_wp2_with fail;refine(yx HC _).mono ?_;rintro e w1 ⟨rfl,hb1⟩;obtain⟨c0,c1,c2,f0,f1,f2,hz,hB⟩:=sN hb1;clear hb1;go_wp2;exact bodyPost_ret (v:=.agg #[.string ⟨#[]⟩,J Z 0,J Z 2]) (by simp[results,Tryz.results45,go_sem,c0,c1,c2,hz]) rfl ⟨rfl,iL (((hB.setCell (by simp) _).setCell (by simp) _).setCell (by simp) _) (Nat.le_refl _) _⟩
 ·rw[eo,if_neg h8];exact nY s p w (by omega) h1
end
section
open Go.RowKit
def aY(L:List D3):Nat→List D3
 | 0=>[]
 | i+1=>if (aY L i).length<6∧eA (aY L i) (vA L i) (aY L i).length=false then aY L i ++ [vA L i] else aY L i
def gA(L:List D3):List D3:=aY L L.length
variable {i:Nat}
theorem vU{L:List D3}(h:(aY L i).length<6)(ha:eA (aY L i) (vA L i) (aY L i).length=false):aY L (i+1)=aY L i ++ [vA L i]:=by
 show (if _ then _ else _)=_;rw[if_pos ⟨h,ha⟩]
theorem xS{L:List D3}(ha:eA (aY L i) (vA L i) (aY L i).length=true):aY L (i+1)=aY L i:=by
 show (if _ then _ else _)=_;rw[if_neg (fun h=>by rw[h.2]at ha;cases ha)]
theorem xR{L:List D3}(h:¬(aY L i).length<6):aY L (i+1)=aY L i:=by
 show (if _ then _ else _)=_;rw[if_neg (fun hh=>h hh.1)]
theorem qE(L:List D3):∀i,(aY L i).length≤6∧(aY L i).length≤i
 | 0=>by simp[aY]
 | i+1=>by
  have ih:=qE L i;unfold aY;split
  ·rename_i h
   have:=h.1;simp;omega
  ·omega
theorem xU{L:List D3}(h:¬(aY L i).length<6):∀j,i≤j→aY L j=aY L i
 | 0,hj=>by
  have:i=0:=by omega
  rw[this]
 | j+1,hj=>by
  by_cases e:i=j+1
  ·rw[e]
  ·have ih:=xU h j (by omega);rw[xR (by rw[ih];exact h),ih]
theorem Bj{K:List D3}{x:D3}{k:Nat}(hk:k<K.length):vA (K ++ [x]) k=vA K k:=by
 unfold vA;rw[List.getD_eq_getElem?_getD,List.getD_eq_getElem?_getD,List.getElem?_append_left hk]
theorem zA{K:List D3}{x:D3}:vA (K ++ [x]) K.length=x:=by
 unfold vA;rw[List.getD_eq_getElem?_getD,List.getElem?_append_right (Nat.le_refl _)];simp
theorem zX(L:List D3):∀i k,k<(aY L i).length→∃j,j<i∧vA (aY L i) k=vA L j
 | 0,k,h=>by simp[aY]at h
 | i+1,k,h=>by
  by_cases hc:(aY L i).length<6∧eA (aY L i) (vA L i) (aY L i).length=false
  ·rw[vU hc.1 hc.2]at h ⊢;by_cases hk:k<(aY L i).length
   ·obtain⟨j,hj,e⟩:=zX L i k hk;exact⟨j,by omega,by rw[Bj hk];exact e⟩
   ·have:k=(aY L i).length:=by simp at h;omega
    subst this;exact⟨i,by omega,zA⟩
  ·have e:aY L (i+1)=aY L i:=by
    show (if _ then _ else _)=_;rw[if_neg hc]
   rw[e]at h ⊢;obtain⟨j,hj,e2⟩:=zX L i k h;exact⟨j,by omega,e2⟩
end
section
structure Fr where
 wd:Nat
 ht:Nat
 px:Nat→Nat
 lv:Int
def Fr.n(f:Fr):Nat:=f.wd*f.ht
def kQ(f:Fr)(T:Nat→Bool)(i:Nat):Bool:=decide (f.lv<(f.px i:Int)) && !T i
def mark(T:Nat→Bool)(i:Nat):Nat→Bool:=fun j=>if j=i then true else T j
def jA(f:Fr)(i:Nat):List Nat:=
 (if 0<i % f.wd then [i-1] else []) ++ (if i % f.wd<f.wd-1 then [i+1] else []) ++ (if 0<i / f.wd then [i-f.wd] else []) ++ (if i / f.wd<f.ht-1 then [i+f.wd] else [])
def jw(f:Fr)(s:(Nat→Bool)×List Nat)(j:Nat):(Nat→Bool)×List Nat:=if kQ f s.1 j=true then (mark s.1 j,s.2 ++ [j]) else s
def fq(f:Fr)(s:(Nat→Bool)×List Nat)(l:List Nat):(Nat→Bool)×List Nat:=l.foldl (jw f) s
def aV(f:Fr)(T:Nat→Bool)(i:Nat):Nat→(Nat→Bool)×List Nat
 | 0=>(mark T i,[i])
 | k+1=>if k<(aV f T i k).2.length then fq f (aV f T i k) (jA f ((aV f T i k).2.getD k 0)) else aV f T i k
def cnt(T:Nat→Bool):Nat→Nat
 | 0=>0
 | n+1=>cnt T n+if T n=true then 1 else 0
theorem EE(T:Nat→Bool):∀n,cnt T n≤n
 | 0=>Nat.le_refl _
 | n+1=>by unfold cnt;have:=EE T n;split<;>omega
theorem pt(T:Nat→Bool)(i:Nat):∀n,n≤i→cnt (mark T i) n=cnt T n
 | 0,_=>rfl
 | n+1,h=>by
  have e:mark T i n=T n:=by unfold mark;rw[if_neg (by omega)]
  unfold cnt;rw[pt T i n (by omega),e]
theorem rj(T:Nat→Bool)(i:Nat)(hT:T i=false):∀n,i<n→cnt (mark T i) n=cnt T n+1
 | 0,h=>absurd h (Nat.not_lt_zero _)
 | n+1,h=>by
  unfold cnt;by_cases e:i=n
  ·subst e;rw[pt T i i (Nat.le_refl _),hT];simp[mark]
  ·have e2:mark T i n=T n:=by unfold mark;rw[if_neg (by omega)]
   rw[rj T i hT n (by omega),e2];omega
structure tu (f:Fr) (c:Nat) (s:(Nat→Bool)×List Nat):Prop where
 num:cnt s.1 f.n=c+s.2.length
 lies:∀j∈s.2,j<f.n
variable {c i k:Nat} {T:Nat→Bool}
theorem tu.len{f:Fr}{s:(Nat→Bool)×List Nat}(h:tu f c s):c+s.2.length≤f.n:=by rw[←h.num];exact EE _ _
theorem rW{f:Fr}{j:Nat}(h:kQ f T j=true):f.lv<(f.px j:Int)∧T j=false:=by
 unfold kQ at h;rw[Bool.and_eq_true]at h;exact⟨of_decide_eq_true h.1,by simpa using h.2⟩
theorem AO{f:Fr}{s:(Nat→Bool)×List Nat}(h:tu f c s){j:Nat}(hj:j<f.n):tu f c (jw f s j):=by
 unfold jw;split
 ·rename_i hl
  refine⟨?_,?_⟩
  ·show cnt (mark s.1 j) f.n=_;rw[rj _ _ (rW hl).2 _ hj,h.num];simp;omega
  ·intro q hq;rw[List.mem_append]at hq;rcases hq with hq | hq
   ·exact h.lies q hq
   ·rw[List.mem_singleton.1 hq];exact hj
 ·exact h
theorem ss{f:Fr}(l:List Nat):∀ {s:(Nat→Bool)×List Nat},tu f c s→(∀j∈l,j<f.n)→tu f c (fq f s l):=by
 induction l with
 | nil=>intro s h _;exact h
 | cons x l ih=>intro s h hl;exact ih (AO h (hl x (by simp))) (fun j hj=>hl j (by simp[hj]))
theorem sf{f:Fr}(hi:i<f.n):∀j∈jA f i,j<f.n:=by
 intro j hj
 have hw:0<f.wd:=by
  rcases Nat.eq_zero_or_pos f.wd with h | h
  ·rw[Fr.n,h,Nat.zero_mul]at hi;omega
  ·exact h
 have hdm:=Nat.div_add_mod i f.wd;have hmod:=Nat.mod_lt i hw;have hdiv:i / f.wd<f.ht:=Nat.div_lt_of_lt_mul hi;unfold jA at hj;simp only[List.mem_append]at hj;rcases hj with ((hj | hj) | hj) | hj
 ·by_cases h:0<i % f.wd
  ·rw[if_pos h]at hj;rw[List.mem_singleton.1 hj];omega
  ·rw[if_neg h]at hj;cases hj
 ·by_cases h:i % f.wd<f.wd-1
  ·rw[if_pos h]at hj;rw[List.mem_singleton.1 hj];have h2:f.wd*(i / f.wd+1)≤f.wd*f.ht:=Nat.mul_le_mul_left _ hdiv;rw[Nat.mul_add,Nat.mul_one]at h2;show i+1<f.wd*f.ht;omega
  ·rw[if_neg h]at hj;cases hj
 ·by_cases h:0<i / f.wd
  ·rw[if_pos h]at hj;rw[List.mem_singleton.1 hj];omega
  ·rw[if_neg h]at hj;cases hj
 ·by_cases h:i / f.wd<f.ht-1
  ·rw[if_pos h]at hj;rw[List.mem_singleton.1 hj]
   have h3:i / f.wd+1+1≤f.ht:=by
    generalize i / f.wd=q at *;omega
   have h2:f.wd*(i / f.wd+1+1)≤f.wd*f.ht:=Nat.mul_le_mul_left _ h3;rw[Nat.mul_add,Nat.mul_add,Nat.mul_one]at h2;show i+f.wd<f.wd*f.ht;omega
  ·rw[if_neg h]at hj;cases hj
theorem ks{f:Fr}(hi:i<f.n)(hT:T i=false):∀k,tu f (cnt T f.n) (aV f T i k)
 | 0=>⟨by show cnt (mark T i) f.n=_;rw[rj _ _ hT _ hi];rfl,fun j hj=>by rw[List.mem_singleton.1 hj];exact hi⟩
 | k+1=>by
  have ih:=ks hi hT k;unfold aV;split
  ·rename_i h
   refine ss _ ih (sf (ih.lies _ ?_));rw[List.getD,List.getElem?_eq_getElem h];exact List.getElem_mem h
  ·exact ih
theorem Eg(f:Fr)(s:(Nat→Bool)×List Nat)(j:Nat):s.2 <+: (jw f s j).2:=by
 unfold jw;split
 ·exact⟨[j],rfl⟩
 ·exact List.prefix_refl _
theorem DL(f:Fr)(l:List Nat):∀s:(Nat→Bool)×List Nat,s.2 <+: (fq f s l).2:=by
 induction l with
 | nil=>intro s;exact List.prefix_refl _
 | cons x l ih=>intro s;exact(Eg f s x).trans (ih _)
theorem uE(f:Fr)(T:Nat→Bool)(i k:Nat):(aV f T i k).2 <+: (aV f T i (k+1)).2:=by
 rw[aV];split
 ·exact DL _ _ _
 ·exact List.prefix_refl _
theorem rH{f:Fr}(h:(aV f T i k).2.length≤k):∀m,aV f T i (k+m)=aV f T i k
 | 0=>rfl
 | m+1=>by
  have ih:=rH h m;rw[←Nat.add_assoc,aV,ih,if_neg (by omega)]
def fN(f:Fr)(T:Nat→Bool)(i:Nat):(Nat→Bool)×List Nat:=aV f T i f.n
theorem uo{f:Fr}(hi:i<f.n)(hT:T i=false)(hk:(aV f T i k).2.length≤k)(hkn:k≤f.n):aV f T i k=fN f T i:=by
 unfold fN;rw[←rH hk (f.n-k),show k+(f.n-k)=f.n by omega]
structure Bl where
 ar:Nat
 su:Nat
 sx:Nat
 sy:Nat
 ed:Bool
def eE(f:Fr)(i:Nat):Bool:=decide (i % f.wd=0) || decide (i / f.wd=0) || decide (i % f.wd=f.wd-1) || decide (i / f.wd=f.ht-1)
def tv(f:Fr)(b:Bl)(i:Nat):Bl:=⟨b.ar+1,b.su+f.px i,b.sx+f.px i*(i % f.wd),b.sy+f.px i*(i / f.wd),b.ed || eE f i⟩
def gw(f:Fr)(l:List Nat):Bl:=l.foldl (tv f) ⟨0,0,0,0,false⟩
theorem vq(f:Fr)(l:List Nat)(i:Nat):gw f (l ++ [i])=tv f (gw f l) i:=by unfold gw;rw[List.foldl_append];rfl
def aP(f:Fr):Nat→(Nat→Bool)×List Bl
 | 0=>(fun _=>false,[])
 | i+1=>if kQ f (aP f i).1 i=true then ((fN f (aP f i).1 i).1,(aP f i).2 ++ [gw f (fN f (aP f i).1 i).2]) else aP f i
theorem vk(f:Fr)(i:Nat):∀m,(aP f i).2.length≤(aP f (i+m)).2.length
 | 0=>Nat.le_refl _
 | m+1=>by
  refine Nat.le_trans (vk f i m) ?_;rw[←Nat.add_assoc,aP];split
  ·simp
  ·exact Nat.le_refl _
theorem mW(f:Fr):∀i,(aP f i).2.length≤i
 | 0=>Nat.le_refl _
 | i+1=>by
  have:=mW f i;rw[aP];split
  ·simp;omega
  ·omega
theorem rB{f:Fr}(hw:f.wd≤16)(hh:f.ht≤12)(hp:∀i,f.px i<256):∀(l:List Nat) (b:Bl),(∀j∈l,j<f.n)→(l.foldl (tv f) b).ar=b.ar+l.length∧(l.foldl (tv f) b).su≤b.su+255*l.length∧(l.foldl (tv f) b).sx≤b.sx+3825*l.length∧(l.foldl (tv f) b).sy≤b.sy+2805*l.length
 | [],b,_=>⟨rfl,Nat.le_refl _,Nat.le_refl _,Nat.le_refl _⟩
 | i :: l,b,hl=>by
  obtain⟨h1,h2,h3,h4⟩:=rB hw hh hp l (tv f b i) (fun j hj=>hl j (by simp[hj]));have hi:=hl i (by simp);have hpi:=hp i
  have hw0:0<f.wd:=by
   rcases Nat.eq_zero_or_pos f.wd with h | h
   ·rw[Fr.n,h,Nat.zero_mul]at hi;omega
   ·exact h
  have hm:=Nat.mod_lt i hw0;have hd:i / f.wd<f.ht:=Nat.div_lt_of_lt_mul hi;have m1:f.px i*(i % f.wd)≤255*15:=Nat.mul_le_mul (by omega) (by omega);have m2:f.px i*(i / f.wd)≤255*11:=Nat.mul_le_mul (by omega) (by omega);rw[List.foldl_cons,List.length_cons];unfold tv at h1 h2 h3 h4 ⊢;simp only at h1 h2 h3 h4 ⊢;refine⟨by omega,by omega,by omega,by omega⟩
theorem pf{f:Fr}(hw:f.wd≤16)(hh:f.ht≤12)(hp:∀i,f.px i<256)(l:List Nat)(hl:∀j∈l,j<f.n):(gw f l).ar=l.length∧(gw f l).su≤255*l.length∧(gw f l).sx≤3825*l.length∧(gw f l).sy≤2805*l.length:=by
 have:=rB hw hh hp l ⟨0,0,0,0,false⟩ hl;simpa[gw] using this
end
section
open Go.RowKit Go.Deep Go.ChangeShapes
end
section
open Go.RowKit Go.Sort
abbrev V3:=Int×Int×Int
def zD(w:World)(b:Nat)(x y:Int):Prop:=w.cell? ⟨b,0,none⟩=some (.int .i64 x)∧w.cell? ⟨b,1,none⟩=some (.int .i64 y)
theorem zD.kept{w w':World}{b:Nat}{x y:Int}(h:zD w b x y)(hB:Below w.heap.size w w'):zD w' b x y:=by
 have hb:=World.block_lt_of_cell? w _ h.1;exact⟨by rw[hB.cell (p:=⟨b,0,none⟩) hb];exact h.1,by rw[hB.cell (p:=⟨b,1,none⟩) hb];exact h.2⟩
abbrev P2:=Int×Int
abbrev Sp:=P2×V3×V3
def zE(w:World)(b:Nat)(x y a1 a2 a3 b1 b2 b3:Int):Prop:=w.cell? ⟨b,0,none⟩=some (.int .i64 x)∧w.cell? ⟨b,1,none⟩=some (.int .i64 y)∧w.cell? ⟨b,2,none⟩=some (.int .i64 a1)∧w.cell? ⟨b,3,none⟩=some (.int .i64 a2)∧w.cell? ⟨b,4,none⟩=some (.int .i64 a3)∧w.cell? ⟨b,5,none⟩=some (.int .i64 b1)∧w.cell? ⟨b,6,none⟩=some (.int .i64 b2)∧w.cell? ⟨b,7,none⟩=some (.int .i64 b3)
theorem zE.kept{w w':World}{b:Nat}{x y a1 a2 a3 b1 b2 b3:Int}(h:zE w b x y a1 a2 a3 b1 b2 b3)(hB:Below w.heap.size w w'):zE w' b x y a1 a2 a3 b1 b2 b3:=by
 have hb:=World.block_lt_of_cell? w _ h.1;obtain⟨h0,h1,h2,h3,h4,h5,h6,h7⟩:=h;exact⟨by rw[hB.cell (p:=⟨b,0,none⟩) hb];exact h0,by rw[hB.cell (p:=⟨b,1,none⟩) hb];exact h1,by rw[hB.cell (p:=⟨b,2,none⟩) hb];exact h2,by rw[hB.cell (p:=⟨b,3,none⟩) hb];exact h3,by rw[hB.cell (p:=⟨b,4,none⟩) hb];exact h4,by rw[hB.cell (p:=⟨b,5,none⟩) hb];exact h5,by rw[hB.cell (p:=⟨b,6,none⟩) hb];exact h6,by rw[hB.cell (p:=⟨b,7,none⟩) hb];exact h7⟩
def Ey(w:World)(b o:Nat)(s:Sp):Prop:=w.cell? ⟨b,o,none⟩=some (.int .i64 s.1.1)∧w.cell? ⟨b,o+1,none⟩=some (.int .i64 s.1.2)∧w.cell? ⟨b,o+2,none⟩=some (.int .i64 s.2.1.1)∧w.cell? ⟨b,o+3,none⟩=some (.int .i64 s.2.1.2.1)∧w.cell? ⟨b,o+4,none⟩=some (.int .i64 s.2.1.2.2)∧w.cell? ⟨b,o+5,none⟩=some (.int .i64 s.2.2.1)∧w.cell? ⟨b,o+6,none⟩=some (.int .i64 s.2.2.2.1)∧w.cell? ⟨b,o+7,none⟩=some (.int .i64 s.2.2.2.2)
theorem Ey.kept{w w':World}{b o:Nat}{s:Sp}(h:Ey w b o s)(hB:Below w.heap.size w w'):Ey w' b o s:=by
 have hb:b<w.heap.size:=World.block_lt_of_cell? w _ h.1;obtain⟨h0,h1,h2,h3,h4,h5,h6,h7⟩:=h;exact⟨by rw[hB.cell (p:=⟨b,o,none⟩) hb];exact h0,by rw[hB.cell (p:=⟨b,o+1,none⟩) hb];exact h1,by rw[hB.cell (p:=⟨b,o+2,none⟩) hb];exact h2,by rw[hB.cell (p:=⟨b,o+3,none⟩) hb];exact h3,by rw[hB.cell (p:=⟨b,o+4,none⟩) hb];exact h4,by rw[hB.cell (p:=⟨b,o+5,none⟩) hb];exact h5,by rw[hB.cell (p:=⟨b,o+6,none⟩) hb];exact h6,by rw[hB.cell (p:=⟨b,o+7,none⟩) hb];exact h7⟩
theorem Kf{L:List St}{i:Nat}(h:fA L i=true)(hi:0<i):(stA L (i-1)).1<(stA L i).1:=by
 unfold fA upB at h;simp only[Bool.and_eq_true,Bool.or_eq_true,decide_eq_true_eq]at h;omega
theorem ye{L:List St}(h:bk L=true):∀i,i<L.length→∀j,j<i→(stA L j).1<(stA L i).1
 | 0,_,j,hj=>absurd hj (Nat.not_lt_zero _)
 | i+1,hi,j,hj=>by
  have hu:=Kf ((eu h).2 (i+1) hi) (by omega);rw[Nat.add_sub_cancel]at hu;by_cases e:j=i
  ·subst e;exact hu
  ·have:=ye h i (by omega) j (by omega);omega
theorem zK{L:List St}(h:bk L=true){i:Nat}(hi:i<L.length):atV L L.length (stA L i).1=(stA L i).2:=
 zJ hi (fun j hj e=>by have:=ye h i hi j hj;omega) rfl
def tA(L:List T4)(i:Nat):T4:=L.getD i (0,0,0,0)
theorem EP:∀(S:List T4) (k:Nat) (b:T4),S[k]? = some b→∀j u,(vB b)[j]? = some u→(ew S)[k*4+j]? = some u:=by
 intro S
 induction S with
 | nil=>intro k b h;simp at h
 | cons x S ih=>
  intro k b h j u hu;have e:ew (x :: S)=vB x ++ ew S:=by unfold ew;simp
  have hj:j<4:=(List.getElem?_eq_some_iff.1 hu).1;rw[e];cases k with
  | zero=>
   simp at h;subst h;rw[List.getElem?_append_left (by show _<4;omega)];simpa using hu
  | succ k=>
   rw[List.getElem?_append_right (by show 4≤_;omega)];rw[show (k+1)*4+j-(vB x).length=k*4+j by show _-4=_;omega];exact ih k b (by simpa using h) j u hu
def kW(w:World)(g:Nat)(L:List T4):Prop:=g<w.heap.size∧∀k,k<L.length→w.cell? ⟨g,k*4,none⟩=some (.int .i64 (tA L k).1)∧w.cell? ⟨g,k*4+1,none⟩=some (.int .i64 (tA L k).2.1)∧w.cell? ⟨g,k*4+2,none⟩=some (.int .i64 (tA L k).2.2.1)∧w.cell? ⟨g,k*4+3,none⟩=some (.int .i64 (tA L k).2.2.2)
variable {w:World}
theorem kW.kept{w':World}{g:Nat}{L:List T4}(h:kW w g L)(hB:Below w.heap.size w w'):kW w' g L:=by
 refine⟨Nat.lt_of_lt_of_le h.1 hB.size,fun k hk=>?_⟩;obtain⟨h0,h1,h2,h3⟩:=h.2 k hk;exact⟨by rw[hB.cell (p:=⟨g,k*4,none⟩) h.1];exact h0,by rw[hB.cell (p:=⟨g,k*4+1,none⟩) h.1];exact h1,by rw[hB.cell (p:=⟨g,k*4+2,none⟩) h.1];exact h2,by rw[hB.cell (p:=⟨g,k*4+3,none⟩) h.1];exact h3⟩
theorem vC{B:Nat}{v:Value}{L:List T4}(h:w.ownsRow B 35 4 v L.length (ew L))(h0:0<L.length):∃g c,v=.slice (some ⟨g,0,none⟩) L.length c∧B≤g∧kW w g L:=by
 rcases h.2 with ⟨h1,h0'⟩ | ⟨g,cap,cur,hv,hb,hg,hnc,hcm,hcs,htake⟩
 ·omega
 ·refine⟨g,cap,hv,hb,(Array.getElem?_eq_some_iff.1 hg).1,fun k hk=>?_⟩;have hk':L[k]? = some (tA L k):=by unfold tA;rw[List.getD,List.getElem?_eq_getElem hk];rfl
  have cl:∀j u,(vB (tA L k))[j]? = some u→w.cell? ⟨g,k*4+j,none⟩=some u:=by
   intro j u hu;have hj:j<4:=(List.getElem?_eq_some_iff.1 hu).1;have e:=EP L k _ hk' j u hu;rw[cell_of_row w g _ cur _ _ hg];rw[←htake,List.getElem?_take,if_pos (by omega)]at e;simpa using e
  exact⟨cl 0 _ rfl,cl 1 _ rfl,cl 2 _ rfl,cl 3 _ rfl⟩
end
section
open Go.Value renaming int → J
open Go.IntKind renaming i64 → Z
open Go.RowKit
def hH(w:World)(b:Nat)(p q r s k:Int):Prop:=w.cell? ⟨b,0,none⟩=some (J Z p)∧w.cell? ⟨b,1,none⟩=some (J Z q)∧w.cell? ⟨b,2,none⟩=some (J Z r)∧w.cell? ⟨b,3,none⟩=some (J Z s)∧w.cell? ⟨b,4,none⟩=some (J Z k)
def kH(w:World)(b:Nat):Prop:=w.frozen? ⟨b,0,none⟩=false∧w.frozen? ⟨b,1,none⟩=false∧w.frozen? ⟨b,2,none⟩=false∧w.frozen? ⟨b,3,none⟩=false∧w.frozen? ⟨b,4,none⟩=false
variable {k p q r s:Int} {b:Nat} {w w':World}
theorem hH.lt(h:hH w b p q r s k):b<w.heap.size:=World.block_lt_of_cell? w _ h.1
theorem hH.kept(h:hH w b p q r s k)(hB:Below w.heap.size w w'):hH w' b p q r s k:=by
 have hb:=h.lt;obtain⟨h0,h1,h2,h3,h4⟩:=h;exact⟨by rw[hB.cell (p:=⟨b,0,none⟩) hb];exact h0,by rw[hB.cell (p:=⟨b,1,none⟩) hb];exact h1,by rw[hB.cell (p:=⟨b,2,none⟩) hb];exact h2,by rw[hB.cell (p:=⟨b,3,none⟩) hb];exact h3,by rw[hB.cell (p:=⟨b,4,none⟩) hb];exact h4⟩
theorem kH.kept(h:kH w b)(hb:b<w.heap.size)(hB:Below w.heap.size w w'):kH w' b:=by
 obtain⟨h0,h1,h2,h3,h4⟩:=h;exact⟨by rw[hB.frozen (p:=⟨b,0,none⟩) hb];exact h0,by rw[hB.frozen (p:=⟨b,1,none⟩) hb];exact h1,by rw[hB.frozen (p:=⟨b,2,none⟩) hb];exact h2,by rw[hB.frozen (p:=⟨b,3,none⟩) hb];exact h3,by rw[hB.frozen (p:=⟨b,4,none⟩) hb];exact h4⟩
theorem gV(w:World)(p q r s k:Int)(t:TypeId):hH (w.alloc (.cells #[J Z p,J Z q,J Z r,J Z s,J Z k] t)) w.heap.size p q r s k:=by
 refine⟨?_,?_,?_,?_,?_⟩<;>simp
theorem jJ(w:World)(p q r s k:Int)(t:TypeId):kH (w.alloc (.cells #[J Z p,J Z q,J Z r,J Z s,J Z k] t)) w.heap.size:=by
 refine⟨?_,?_,?_,?_,?_⟩<;>simp
theorem hH.alloc(h:hH w b p q r s k)(o:Obj):hH (w.alloc o) b p q r s k:=h.kept (ak _ _)
end
section
open Go.RowKit Go.Sort
def dG(k:Nat):ByteArray:=if k=0 then ⟨#[]⟩ else ⟨(Lib.decDigits k).toArray⟩
def dgB(d:Nat):UInt8:=UInt8.ofNat (48+d)
theorem IE(k l:List UInt8):((⟨k.toArray⟩:ByteArray) ++ ⟨l.toArray⟩)=⟨(k ++ l).toArray⟩:=by
 apply ByteArray.ext;simp
theorem Hf{k:Nat}(hk:k≠0):dG k=dG (k / 10) ++ ⟨#[dgB (k % 10)]⟩:=by
 unfold dG dgB;rw[if_neg hk];by_cases h:k<10
 ·rw[if_pos (by omega),Lib.decDigits_one h,Nat.mod_eq_of_lt h];exact(IE [] _).symm
 ·rw[if_neg (by omega),Lib.decDigits,dif_neg h];exact(IE _ [_]).symm
theorem Hg:dG 0=⟨#[]⟩:=rfl
theorem zL(x:UInt8):(⟨#[x]⟩:ByteArray).size=1:=rfl
theorem GV:(⟨#[]⟩:ByteArray).size=0:=rfl
theorem Jc(t:ByteArray):(⟨#[]⟩:ByteArray) ++ t=t:=by
 apply ByteArray.ext;simp
theorem GU(t:ByteArray):t ++ (⟨#[]⟩:ByteArray)=t:=by
 apply ByteArray.ext;simp
theorem Jg{d:Nat}(h:d<10):((dgB d).toNat:Int)=48+(d:Int):=by
 unfold dgB;rw[UInt8.toNat_ofNat'];omega
theorem Jv(k:Nat):(k:Int).tmod 10=((k % 10:Nat):Int):=by
 rw[Int.tmod_eq_emod_of_nonneg (by omega)];omega
theorem Ju(k:Nat):(k:Int).tdiv 10=((k / 10:Nat):Int):=by
 rw[Int.tdiv_eq_ediv_of_nonneg (by omega)];omega
theorem Je(w:World)(k:UInt8):(convert 176 9 (.slice (some ⟨w.heap.size,0,none⟩) 1 1)).run Tryz.prog (w.alloc (.cells #[.int .u8 (k.toNat:Int)] 5))=.ok (.string ⟨#[k]⟩) (w.alloc (.cells #[.int .u8 (k.toNat:Int)] 5)):=
 lL w 5 #[.int .u8 (k.toNat:Int)] ⟨#[k]⟩ (by simp[Lib.byteCells]) 1
theorem nK(n:Nat)(w:World)(hn:n≤1000000000)(h1:1≤n):
  Calls Tryz.prog 97 #[.int .i64 n] w fun e w'=>e=.returned (.string (⟨#[109]⟩ ++ dG n))∧Below w.heap.size w w':=by
 have h0:¬(n:Int)≤0:=by omega
 go_enter Tryz.func97,Tryz.ntmps97;go_wp2_with fail;go_loopw [0,3] (fun u s wr=>∃(k:Nat) (t:ByteArray),u=.int .i64 k∧s=.string t∧k≤n∧t.size+k≤n∧Hid (dG k ++ t=dG n)∧Hid (Below w.heap.size w wr)) (fun u _ _=>(intOf u).toNat)
 case atStart=>exact⟨n,⟨#[]⟩,rfl,rfl,Nat.le_refl _,by rw[GV];omega,yz (GU _),yz (Below.refl _ _)⟩
 case round=>
  obtain⟨k,t,rfl,rfl,hk,ht,HD,HB⟩:=hrel;by_cases hz:k=0
  ·subst hz;have hc:¬(⟨#[109]⟩:ByteArray).size+t.size>9223372036854775807:=by rw[zL];omega
   go_wp2;go_ret;exact⟨by rw[←yx HD,Hg,Jc];rfl,yx HB⟩
  ·have hk0:(0:Int)<(k:Int):=by omega
   obtain⟨d,hd⟩:∃d,k % 10=d:=⟨_,rfl⟩
   obtain⟨q,hq⟩:∃q,k / 10=q:=⟨_,rfl⟩
   have hd10:d<10:=by omega
   have er:=Jv k;have eq:=Ju k;rw[hd]at er;rw[hq]at eq;have hcv:=Je wr (dgB d);rw[Jg hd10]at hcv;have hc:¬(⟨#[dgB d]⟩:ByteArray).size+t.size>9223372036854775807:=by rw[zL];omega
   go_wp2;go_roundw
   case rel=>exact⟨q,⟨#[dgB d]⟩ ++ t,rfl,rfl,by omega,by rw[ByteArray.size_append,zL];omega,yz (by rw[←yx HD,Hf hz,hd,hq,ByteArray.append_assoc]),yz (aj (yx HB) (ak _ _))⟩
   case measure=>simp[intOf];omega
end
section
open Go.ChangeShapes Go.WideShapes Go.ChangeAt Go.RowKit Go.Joins Go.Deep
theorem vo : "*" ++ "errors.errorString" = "*errors.errorString" := by decide
theorem rowC (u : TypeId) (h : Tryz.prog.typeName? 3 u = some "*errors.errorString") : u = 309 :=
 typeName_ptr_named (nm := "errors.errorString") (by rw [vo]; kernel_rfl) (by kernel_rfl) (by decide) u (by rw [vo]; exact h)
theorem np : Tryz.prog.globalNamed "loop.example/g00577/impl.errNoCommand" = some 0 := by kernel_rfl
theorem BA:(Tryz.prog.globals[0]?).map (·.type)=some 129:=by kernel_rfl
theorem mx {W : World} {p : Addr} (hv : W.var? Tryz.prog "loop.example/g00577/impl.errNoCommand" = some #[.iface 309 (.pointer (some p))]) : ce p W := by
 unfold ce;rw[World.var?_cell np hv 0];rfl
end
section
open Go.ChangeShapes Go.WideShapes Go.RowKit
theorem EL : Tryz.prog.globalNamed "errors.errorType" = some 2 := by kernel_rfl
theorem FY : (Tryz.prog.cutTypes.find? (·.1 == "internal/reflectlite.rtype")).map (·.2) = some 251 := by kernel_rfl
theorem Jz:((List.range 341).filter fun t=>Tryz.prog.rowNamed t [101,114,114,111,114])=[129]:=by kernel_rfl
theorem El:Tryz.prog.types.size=341:=by kernel_rfl
end
end Go.Proofs.YteoonaanoenjiaaGreatDoor
