/- Several texts in one: SkyE, SkyF, ReadA, As, GetNum, GetText, CrA, MarkS. -/
import Derived.RegionTactic
import Derived.Test.YteoonaanoenjiaaGreatDoorL4
namespace Go.Proofs.YteoonaanoenjiaaGreatDoor
set_option linter.unusedVariables false
set_option linter.unusedSimpArgs false
set_option maxRecDepth 100000
set_option maxHeartbeats 8000000
section
open Go.Value renaming int → J
open Go.IntKind renaming i64 → Z
open Go.RowKit Go.Sort
theorem xO(a1 a2 a3 b1 b2 b3:Int):eqB a1 a2 a3 b1 b2 b3=eqI b1 b2 b3 a1 a2 a3:=by
 unfold eqB eqI;congr 1
 apply propext;constructor<;>rintro ⟨h1,h2,h3⟩<;>exact⟨h1.symm,h2.symm,h3.symm⟩
variable {s1 s2 s3 s4:Int} {i:Nat}
theorem yA{L:List St}(hs:stA L i=(s1,s2,s3,s4))(h:idB s1=false):fA L i=false:=by unfold fA;rw[hs];simp[h]
theorem FC{L:List St}(h:upB L i=false):fA L i=false:=by unfold fA;simp[h]
theorem nO{L:List St}(hs:stA L i=(s1,s2,s3,s4))(h:aN s2 s3 s4=false):fA L i=false:=by unfold fA;rw[hs];simp[h]
theorem yB{L:List St}(hs:stA L i=(s1,s2,s3,s4))(h:fK s2 s3 s4=false):fA L i=false:=by unfold fA;rw[hs];simp[h]
theorem FD{L:List St}(h:fw L (stA L i) i=true):fA L i=false:=by unfold fA;simp[h]
theorem yC{L:List St}(hs:stA L i=(s1,s2,s3,s4))(h1:idB s1=true)(h2:upB L i=true)(h3:aN s2 s3 s4=true)(h4:fK s2 s3 s4=true)(h5:fw L (stA L i) i=false):fA L i=true:=by
 unfold fA;rw[h5,h2,hs];simp[h1,h3,h4]
theorem yZ(L:List St)(a:Option Addr)(c:Nat)(w:World)(hn:L.length≤1048576)(hS:aH w a L L.length):
  Calls Tryz.prog 56 #[.slice a L.length c] w fun e w'=>e=.returned (.bool (bk L))∧Below w.heap.size w w':=by
 obtain⟨n,hnl⟩:∃n,L.length=n:=⟨_,rfl⟩
 rw[hnl]at hn hS ⊢;have HL:=yz hnl;clear hnl;by_cases h12:12<n
 ·have h12':(12:Int)<(n:Int):=by omega
  have HO:Hid (bk L=false):=yz (Gh (by rw[yx HL];exact h12));clear hS;go_enter Tryz.func56,Tryz.ntmps56;go_wp2;go_ret;exact⟨by rw[yx HO];rfl,Below.refl _ _⟩
 have h12':¬(12:Int)<(n:Int):=by omega
 rcases hS with rfl | ⟨b,o,rfl,hb,hc⟩
 ·have HO:Hid (bk L=true):=yz (xa (by rw[yx HL];omega) (by rw[yx HL];intro j hj;omega));go_enter Tryz.func56,Tryz.ntmps56;go_wp2_with fail;refine wp_loop_rounds 1 ?_;rw[rounds_succ];go_wp2_with fail;go_ret;exact⟨by rw[yx HO];rfl,Below.refl _ _⟩
 have HC:=yz hc;clear hc;go_enter Tryz.func56,Tryz.ntmps56;go_wp2_with fail;go_loopw [3] (fun i wr=>∃k:Nat,k≤n∧i=J Z k∧Hid (yD L k)∧Hid (Below w.heap.size w wr)) (fun i _=>n-(intOf i).toNat)
 case atStart=>exact⟨0,by omega,rfl,yz (fun j hj=>absurd hj (Nat.not_lt_zero _)),yz (Below.refl _ _)⟩
 case round=>
  obtain⟨k,hk,rfl,HF,HB⟩:=hrel;by_cases hkn:k<n
  ·obtain⟨⟨s1,s2,s3,s4⟩,hs⟩:∃s,stA L k=s:=⟨_,rfl⟩
   have hst:=((yx HC) k hkn).kept hb (yx HB);rw[hs]at hst;obtain⟨c0,c1,c2,c3⟩:=hst;have HT:=yz hs;clear hs;have hkn2:(k:Int)<(n:Int):=by omega
   have B1:=yz ((yx HB).alloc (yx HB).size (.cells #[J Z s2,J Z s3,J Z s4] 111));have N1:=yz (aG wr s2 s3 s4 111);rcases Nat.eq_zero_or_pos k with hk0 | hk0
   ·subst hk0;go_wp2_with fail;clear c0 c1 c2 c3;have hb1:=yx B1;have hn1:=yx N1;generalize hwe:wr.alloc (.cells #[J Z s2,J Z s3,J Z s4] 111)=W1 at hb1 hn1 ⊢;generalize hwb:wr.heap.size=vb at hn1 ⊢;have HB1:=yz hb1;have HN1:=yz hn1;clear hwe hwb hb1 hn1 B1 N1 HB;obtain⟨v0,v1,v2⟩:=yx HN1;have r0:=cell_regrown v0;have r1:=cell_regrown v1;have r2:=cell_regrown v2;clear v0 v1 v2;have hst:=((yx HC) (0) hkn).kept hb (yx HB1);rw[yx HT]at hst;have hst1:=hst.1;simp only[Nat.zero_mul,Nat.add_zero]at hst1;have q0:=cell_regrown hst1;clear hst hst1;have cI:Hid (∀W:World,Calls Tryz.prog 57 #[J Z s1,J Z 1,J Z 9999] W fun e w'=>e=.returned (.bool (idB s1))∧Below W.heap.size W w'):=yz (fun W=>(bp s1 1 9999 W).mono fun e w' h=>⟨h.1,by rw[h.2];exact Below.refl _ _⟩);have cR:=yz (fun W=>jC s2 s3 s4 W);have cW:=yz (fun W=>gY 10 s2 s3 s4 W (by omega) (by omega));cases hid:idB s1
    ·have HO:Hid (bk L=false):=yz (jB (k:=0) (by rw[yx HL];exact hkn) (yA (yx HT) hid));rw[hid]at cI;refine bQ ?_;repeat (go_big_quiet_step (with_reducible first | exact aC cI))
     refine bW fun dq osq=>?_;have hx:=aj (yx HB1) (below_regrown W1 dq osq);go_wp2_with fail;go_ret;exact⟨by rw[yx HO];rfl,hx⟩
    ·rw[hid]at cI;have HU:Hid (upB L 0=true):=yz rfl;cases hr:ax s2 s3 s4
     ·have HO:Hid (bk L=false):=yz (jB (k:=0) (by rw[yx HL];exact hkn) (nO (yx HT) (by unfold aN;rw[hr];rfl)));rw[hr]at cR;refine bQ ?_;repeat (go_big_quiet_step (with_reducible first | exact aC cI | exact aC cR))
      refine bW fun dq osq=>?_;have hx:=aj (yx HB1) (below_regrown W1 dq osq);go_wp2_with fail;go_ret;exact⟨by rw[yx HO];rfl,hx⟩
     ·rw[hr]at cR;have cP:=yz (fun W=>ku s2 s3 s4 W hr);cases hwi:aM 10 s2 s3 s4
      ·have HO:Hid (bk L=false):=yz (jB (k:=0) (by rw[yx HL];exact hkn) (nO (yx HT) (by unfold aN;rw[hwi];simp)));rw[hwi]at cW;refine bQ ?_;repeat (go_big_quiet_step (with_reducible first | exact aC cI | exact aC cR | exact aC cW))
       refine bW fun dq osq=>?_;have hx:=aj (yx HB1) (below_regrown W1 dq osq);go_wp2_with fail;go_ret;exact⟨by rw[yx HO];rfl,hx⟩
      ·rw[hwi]at cW;have hq:=fun W=>kz (wrap64 (s2.tdiv (gI s2 s3 s4))) (wrap64 (s3.tdiv (gI s2 s3 s4))) (wrap64 (s4.tdiv (gI s2 s3 s4))) s2 s3 s4 W;have hq2:eqB (wrap64 (s2.tdiv (gI s2 s3 s4))) (wrap64 (s3.tdiv (gI s2 s3 s4))) (wrap64 (s4.tdiv (gI s2 s3 s4))) s2 s3 s4=fK s2 s3 s4:=by rw[xO];unfold fK prI;rw[hr];rfl
       rw[hq2]at hq;clear hq2;generalize wrap64 (s2.tdiv (gI s2 s3 s4))=t2 at cP hq;generalize wrap64 (s3.tdiv (gI s2 s3 s4))=t3 at cP hq;generalize wrap64 (s4.tdiv (gI s2 s3 s4))=t4 at cP hq;cases hpr:fK s2 s3 s4
       ·have HO:Hid (bk L=false):=yz (jB (k:=0) (by rw[yx HL];exact hkn) (yB (yx HT) hpr));rw[hpr]at hq;refine bQ ?_;repeat (go_big_quiet_step (with_reducible first | exact aC cI | exact aC cR | exact aC cW | exact aC cP))
        refine bW fun dq osq=>?_;have hx:=aj (yx HB1) (below_regrown W1 dq osq);go_wp2_with fail;go_ret;exact⟨by rw[yx HO];rfl,hx⟩
       ·rw[hpr]at hq;have HM:Hid (aN s2 s3 s4=true):=yz (by unfold aN;rw[hr,hwi];rfl);have HI:=yz hid;have HPR:=yz hpr;refine bQ ?_;repeat (go_big_quiet_step (with_reducible first | exact aC cI | exact aC cR | exact aC cW | exact aC cP))
        refine bW fun dq osq=>?_;have hx:=below_regrown W1 dq osq;have hb2:=aj (yx HB1) hx;have hn2:=(yx HN1).kept (vlt (yx HN1)) hx;generalize grow (redrawn W1 dq) osq=W2 at hb2 hn2 hx ⊢;have HB2:=yz hb2;have HN2:=yz hn2;clear hx hb2 hn2 r0 r1 r2 q0 hq cI cR cW cP hid hpr hwi hr HB1 HN1;go_wp2_with fail;go_loopw [5] (fun i wr=>∃m:Nat,m≤0∧i=J Z m∧Hid (oE L (stA L (0)) m)∧Hid (Below w.heap.size w wr)∧Hid (aD wr vb s2 s3 s4)) (fun i _=>(0)-(intOf i).toNat)
        case atStart=>exact⟨0,by omega,rfl,yz (fun j hj=>absurd hj (Nat.not_lt_zero _)),HB2,HN2⟩
        case round=>
         obtain⟨m,hm,rfl,HE,HB3,HN3⟩:=hrel;by_cases hmk:m<0
         ·omega
         ·have hmk':m=0:=by omega
          subst hmk';have HF2:=yz (wO (yx HF) (yC (yx HT) (yx HI) (yx HU) (yx HM) (yx HPR) (tf (yx HE))));go_wp2_with fail;go_roundw
          case rel=>exact⟨0+1,by omega,by go_num,HF2,HB3⟩
          case measure=>simp[intOf];omega
   ·obtain⟨j,hkj⟩:∃j,k=j+1:=⟨k-1,by omega⟩
    have HK:Hid (k-1=j):=yz (by omega);have HKJ:=yz hkj;have hjk:j<k:=by omega
    clear hkj;obtain⟨⟨p1,p2,p3,p4⟩,hp⟩:∃s,stA L j=s:=⟨_,rfl⟩
    have HP:=yz hp;clear hp;go_wp2_with fail;clear c0 c1 c2 c3;have hb1:=yx B1;have hn1:=yx N1;generalize hwe:wr.alloc (.cells #[J Z s2,J Z s3,J Z s4] 111)=W1 at hb1 hn1 ⊢;generalize hwb:wr.heap.size=vb at hn1 ⊢;have HB1:=yz hb1;have HN1:=yz hn1;clear hwe hwb hb1 hn1 B1 N1 HB;obtain⟨v0,v1,v2⟩:=yx HN1;have r0:=cell_regrown v0;have r1:=cell_regrown v1;have r2:=cell_regrown v2;clear v0 v1 v2;have hst:=((yx HC) (k) hkn).kept hb (yx HB1);rw[yx HT]at hst;have q0:=cell_regrown hst.1;clear hst;have hst:=((yx HC) j (by omega)).kept hb (yx HB1);rw[yx HP]at hst;have q1:=cell_regrown hst.1;clear hst;have hj1:(k:Int)-1=(j:Int):=by have:=yx HKJ;omega
    have hj2:(0:Int)<(k:Int):=by omega
    have hj3:(j:Int)<(n:Int):=by omega
    have cI:Hid (∀W:World,Calls Tryz.prog 57 #[J Z s1,J Z 1,J Z 9999] W fun e w'=>e=.returned (.bool (idB s1))∧Below W.heap.size W w'):=yz (fun W=>(bp s1 1 9999 W).mono fun e w' h=>⟨h.1,by rw[h.2];exact Below.refl _ _⟩);have cR:=yz (fun W=>jC s2 s3 s4 W);have cW:=yz (fun W=>gY 10 s2 s3 s4 W (by omega) (by omega));cases hid:idB s1
    ·have HO:Hid (bk L=false):=yz (jB (k:=k) (by rw[yx HL];exact hkn) (yA (yx HT) hid));rw[hid]at cI;refine bQ ?_;repeat (go_big_quiet_step (with_reducible first | exact aC cI))
     refine bW fun dq osq=>?_;have hx:=aj (yx HB1) (below_regrown W1 dq osq);go_wp2_with fail;go_ret;exact⟨by rw[yx HO];rfl,hx⟩
    ·rw[hid]at cI;by_cases hup:s1≤p1
     ·have HO:Hid (bk L=false):=yz (jB (k:=k) (by rw[yx HL];exact hkn) (FC (by unfold upB;rw[yx HK,yx HT];simp[yx HP];omega)));refine bQ ?_;repeat (go_big_quiet_step (with_reducible first | exact aC cI))
      refine bW fun dq osq=>?_;have hx:=aj (yx HB1) (below_regrown W1 dq osq);go_wp2_with fail;go_ret;exact⟨by rw[yx HO];rfl,hx⟩
     have HU:Hid (upB L k=true):=yz (by unfold upB;rw[yx HK,yx HT];simp[yx HP];omega);have hup2:decide (s1≤p1)=false:=by simp;omega
     clear hup;cases hr:ax s2 s3 s4
     ·have HO:Hid (bk L=false):=yz (jB (k:=k) (by rw[yx HL];exact hkn) (nO (yx HT) (by unfold aN;rw[hr];rfl)));rw[hr]at cR;refine bQ ?_;repeat (go_big_quiet_step (with_reducible first | exact aC cI | exact aC cR))
      refine bW fun dq osq=>?_;have hx:=aj (yx HB1) (below_regrown W1 dq osq);go_wp2_with fail;go_ret;exact⟨by rw[yx HO];rfl,hx⟩
     ·rw[hr]at cR;have cP:=yz (fun W=>ku s2 s3 s4 W hr);cases hwi:aM 10 s2 s3 s4
      ·have HO:Hid (bk L=false):=yz (jB (k:=k) (by rw[yx HL];exact hkn) (nO (yx HT) (by unfold aN;rw[hwi];simp)));rw[hwi]at cW;refine bQ ?_;repeat (go_big_quiet_step (with_reducible first | exact aC cI | exact aC cR | exact aC cW))
       refine bW fun dq osq=>?_;have hx:=aj (yx HB1) (below_regrown W1 dq osq);go_wp2_with fail;go_ret;exact⟨by rw[yx HO];rfl,hx⟩
      ·rw[hwi]at cW;have hq:=fun W=>kz (wrap64 (s2.tdiv (gI s2 s3 s4))) (wrap64 (s3.tdiv (gI s2 s3 s4))) (wrap64 (s4.tdiv (gI s2 s3 s4))) s2 s3 s4 W;have hq2:eqB (wrap64 (s2.tdiv (gI s2 s3 s4))) (wrap64 (s3.tdiv (gI s2 s3 s4))) (wrap64 (s4.tdiv (gI s2 s3 s4))) s2 s3 s4=fK s2 s3 s4:=by rw[xO];unfold fK prI;rw[hr];rfl
       rw[hq2]at hq;clear hq2;generalize wrap64 (s2.tdiv (gI s2 s3 s4))=t2 at cP hq;generalize wrap64 (s3.tdiv (gI s2 s3 s4))=t3 at cP hq;generalize wrap64 (s4.tdiv (gI s2 s3 s4))=t4 at cP hq;cases hpr:fK s2 s3 s4
       ·have HO:Hid (bk L=false):=yz (jB (k:=k) (by rw[yx HL];exact hkn) (yB (yx HT) hpr));rw[hpr]at hq;refine bQ ?_;repeat (go_big_quiet_step (with_reducible first | exact aC cI | exact aC cR | exact aC cW | exact aC cP))
        refine bW fun dq osq=>?_;have hx:=aj (yx HB1) (below_regrown W1 dq osq);go_wp2_with fail;go_ret;exact⟨by rw[yx HO];rfl,hx⟩
       ·rw[hpr]at hq;have HM:Hid (aN s2 s3 s4=true):=yz (by unfold aN;rw[hr,hwi];rfl);have HI:=yz hid;have HPR:=yz hpr;refine bQ ?_;repeat (go_big_quiet_step (with_reducible first | exact aC cI | exact aC cR | exact aC cW | exact aC cP))
        refine bW fun dq osq=>?_;have hx:=below_regrown W1 dq osq;have hb2:=aj (yx HB1) hx;have hn2:=(yx HN1).kept (vlt (yx HN1)) hx;generalize grow (redrawn W1 dq) osq=W2 at hb2 hn2 hx ⊢;have HB2:=yz hb2;have HN2:=yz hn2;clear hx hb2 hn2 r0 r1 r2 q0 hq cI cR cW cP hid hpr hwi hr HB1 HN1 q1 hup2;go_wp2_with fail;go_loopw [5] (fun i wr=>∃m:Nat,m≤k∧i=J Z m∧Hid (oE L (stA L (k)) m)∧Hid (Below w.heap.size w wr)∧Hid (aD wr vb s2 s3 s4)) (fun i _=>(k)-(intOf i).toNat)
        case atStart=>exact⟨0,by omega,rfl,yz (fun j hj=>absurd hj (Nat.not_lt_zero _)),HB2,HN2⟩
        case round=>
         obtain⟨m,hm,rfl,HE,HB3,HN3⟩:=hrel;by_cases hmk:m<k
         ·obtain⟨⟨t1,t2,t3,t4⟩,ht⟩:∃s,stA L m=s:=⟨_,rfl⟩
          have hst:=((yx HC) m (by omega)).kept hb (yx HB3);rw[ht]at hst;have hmn:(m:Int)<(n:Int):=by omega
          have hmj:(m:Int)<(k:Int):=by omega
          obtain⟨_,g1,g2,g3⟩:=hst;have k1:=cell_regrown g1;have k2:=cell_regrown g2;have k3:=cell_regrown g3;clear g1 g2 g3;obtain⟨v0,v1,v2⟩:=yx HN3;have r0:=cell_regrown v0;have r1:=cell_regrown v1;have r2:=cell_regrown v2;clear v0 v1 v2
          have HQ:Hid (pR (stA L k) (stA L m)=(eqB (crW t3 t4 s3 s4) (crW t4 t2 s4 s2) (crW t2 t3 s2 s3) 0 0 0&&decide (0<bX t2 t3 t4 s2 s3 s4))):=yz (by
           have hsm:=iU ((yx HF) m (by omega));rw[ht]at hsm;have e:=Ii hsm (yx HM);rw[AC hsm (yx HM)]at e;rw[ht,yx HT]
           exact e.symm)
          have cE:=yz (fun W=>li t2 t3 t4 s2 s3 s4 W);generalize (eqB (crW t3 t4 s3 s4) (crW t4 t2 s4 s2) (crW t2 t3 s2 s3) 0 0 0&&decide (0<bX t2 t3 t4 s2 s3 s4))=y at HQ cE;clear ht;go_wp2_with fail;refine bQ ?_;repeat (go_big_quiet_step (with_reducible first | exact aC cE))
          refine bW fun dq osq=>?_;have hx:=below_regrown wr dq osq;have hb4:=aj (yx HB3) hx;have hn4:=(yx HN3).kept (vlt (yx HN3)) hx;generalize grow (redrawn wr dq) osq=W4 at hx hb4 hn4 ⊢;have HB4:=yz hb4;have HN4:=yz hn4;clear hx hb4 hn4 r0 r1 r2 k1 k2 k3 cE HB3 HN3;cases y
          ·go_wp2_with fail;go_roundw
           case rel=>exact⟨m+1,by omega,by go_num,yz (uD (yx HE) (yx HQ)),HB4,HN4⟩
           case measure=>simp[intOf];omega
          ·have HO:Hid (bk L=false):=yz (jB (k:=k) (by rw[yx HL];exact hkn) (FD (vu hmk (yx HQ))));go_wp2_with fail;go_ret;exact⟨by rw[yx HO];rfl,yx HB4⟩
         ·have hmk':m=k:=by omega
          subst hmk';have HF2:=yz (wO (yx HF) (yC (yx HT) (yx HI) (yx HU) (yx HM) (yx HPR) (tf (yx HE))));go_wp2_with fail;go_roundw
          case rel=>exact⟨m+1,by omega,by go_num,HF2,HB3⟩
          case measure=>simp[intOf];omega
  ·have hkn':k=n:=by omega
   subst hkn';have HO:=yz (xa (L:=L) (by rw[yx HL];omega) (by rw[yx HL];exact yx HF));go_wp2_with fail;go_ret;exact⟨by rw[yx HO];rfl,yx HB⟩
def pm(w:World)(b o:Nat):Prop:=w.frozen? ⟨b,o,none⟩=false∧w.frozen? ⟨b,o+1,none⟩=false∧w.frozen? ⟨b,o+2,none⟩=false∧w.frozen? ⟨b,o+3,none⟩=false
theorem pm.kept{w w':World}{b o:Nat}(h:pm w b o)(hb:b<w.heap.size)(hB:Below w.heap.size w w'):pm w' b o:=by
 obtain⟨h0,h1,h2,h3⟩:=h;exact⟨by rw[hB.frozen (p:=⟨b,o,none⟩) hb];exact h0,by rw[hB.frozen (p:=⟨b,o+1,none⟩) hb];exact h1,by rw[hB.frozen (p:=⟨b,o+2,none⟩) hb];exact h2,by rw[hB.frozen (p:=⟨b,o+3,none⟩) hb];exact h3⟩
theorem uC(w:World)(s:St)(t:TypeId):pm (w.alloc (.cells #[J Z s.1,J Z s.2.1,J Z s.2.2.1,J Z s.2.2.2] t)) w.heap.size 0:=by
 refine⟨?_,?_,?_,?_⟩<;>simp
theorem zp(a:Option Addr)(n c:Nat)(w:World)(hn:n≤1048576):
  Calls Tryz.prog 23 #[.slice a n c,J Z 1048576] w fun e w'=>e=.returned (J Z (1048576-(n:Int)))∧w'=w:=by
 have h:¬(1048576:Int)-(n:Int)<0:=by omega
 go_enter Tryz.func23,Tryz.ntmps23;go_wp2;go_ret;exact⟨rfl,rfl⟩
theorem zq(a:Option Addr)(n c:Nat)(w:World)(hn:1048576<n)(hm:n≤9223372036854775807):
  Calls Tryz.prog 23 #[.slice a n c,J Z 1048576] w fun e w'=>e=.returned (J Z (-1))∧w'=w:=by
 have h:(1048576:Int)-(n:Int)<0:=by omega
 go_enter Tryz.func23,Tryz.ntmps23;go_wp2;go_ret;exact⟨rfl,rfl⟩
theorem Ei(x y z:Int)(w:World):
  Calls Tryz.prog 68 #[.agg #[J Z x,J Z y,J Z z]] w fun e w'=>e=.returned (.agg #[J Z x,J Z y,J Z z])∧Below w.heap.size w w':=by
 go_enter Tryz.func68,Tryz.ntmps68;go_wp2;exact bodyPost_ret (v:=.agg #[J Z x,J Z y,J Z z]) (by simp[results,Tryz.results68,go_sem]) rfl ⟨rfl,bq _ _ _ _⟩
theorem AV(i x y z:Int)(w:World):
  Calls Tryz.prog 67 #[.agg #[J Z i,J Z x,J Z y,J Z z]] w fun e w'=>e=.returned (.agg #[J Z i,J Z x,J Z y,J Z z])∧Below w.heap.size w w':=by
 go_enter Tryz.func67,Tryz.ntmps67;go_wp2_with fail;refine(Ei x y z _).mono ?_;rintro e w1 ⟨rfl,hx⟩;have hB:Below w.heap.size w w1:=aj (bq _ _ _ _) hx;have sa:jy w1 (w.heap.size+1+1) 0 (i,0,0,0):=(by simpa using fu ((w.alloc _).alloc _) (i,0,0,0) _:jy _ (w.heap.size+1+1) 0 (i,0,0,0)).kept (by simp) hx;have fa:pm w1 (w.heap.size+1+1) 0:=(by simpa using uC ((w.alloc _).alloc _) (i,0,0,0) _:pm _ (w.heap.size+1+1) 0).kept (by simp) hx;have sr:jy w1 (w.heap.size+1) 0 (0,0,0,0):=((by simpa using fu (w.alloc _) (0,0,0,0) _:jy _ (w.heap.size+1) 0 (0,0,0,0)).kept (by simp) (ak _ _)).kept (by simp) hx;have fr:pm w1 (w.heap.size+1) 0:=((by simpa using uC (w.alloc _) (0,0,0,0) _:pm _ (w.heap.size+1) 0).kept (by simp) (ak _ _)).kept (by simp) hx;clear hx;obtain⟨c0,c1,c2,c3⟩:=sa;obtain⟨f0,f1,f2,f3⟩:=fa;obtain⟨d0,d1,d2,d3⟩:=sr;obtain⟨g0,g1,g2,g3⟩:=fr;simp only[Nat.zero_add]at c0 c1 c2 c3 f0 f1 f2 f3 d0 d1 d2 d3 g0 g1 g2 g3;go_wp2_with fail
 exact bodyPost_ret (v:=.agg #[J Z i,J Z x,J Z y,J Z z]) (by simp[results,Tryz.results67,go_sem,d0,d1,d2,d3]) rfl ⟨rfl,by
  repeat (refine Below.setCell ?_ (by simp;try omega) _)
  exact hB⟩
end
section
open Go.RowKit
def aO(s:ByteArray)(p:Nat):Option (Int×Nat):=match de s p 10 0 0 with | .ok x=>some (unf x.1,x.2) | .error _=>none
def dQ(s:ByteArray)(p:Nat):Option (St×Nat):=
 match aO s p with
 | none=>none
 | some (a,p1)=>match aO s p1 with
  | none=>none
  | some (b,p2)=>match aO s p2 with
   | none=>none
   | some (c,p3)=>match aO s p3 with
    | none=>none
    | some (d,p4)=>some ((a,b,c,d),p4)
variable {s:ByteArray} {p:Nat}
theorem Cf:∀(k i u:Nat) {x:Nat×Nat},de s p k i u=.ok x→p+i<x.2∧x.2≤s.size
 | 0,i,u,x,h=>by simp[de]at h
 | k+1,i,u,x,h=>by
  rw[de]at h;split at h
  ·cases h
  ·split at h
   ·cases h
   ·split at h
    ·split at h
     ·cases h
     ·have:=Except.ok.inj h;subst this;exact⟨by simp,by simp;omega⟩
    ·have:=Cf k (i+1) _ h;omega
theorem aT{n:Int}{q:Nat}(h:aO s p=some (n,q)):p<q∧q≤s.size:=by
 unfold aO at h;cases hs:de s p 10 0 0 with
 | error c=>rw[hs]at h;cases h
 | ok x=>
  rw[hs]at h;have:=Cf 10 0 0 hs;simp at h;omega
end
section
open Go.RowKit Go.Extern.Stop Go.Stop Go.Extern
theorem Jb(t:Value)(w:World):
  Calls Tryz.prog 129 #[.nilIface,t] w fun e w'=>e=.returned (.bool false)∧w'=w:=by
 go_enter Tryz.func129,Tryz.ntmps129;go_wp2;go_ret;exact⟨rfl,rfl⟩
theorem GG(t:Addr)(w:World):(ReflectliteValue.unpack (.iface 184 (.pointer (some t)))).run Tryz.prog w
  = .ok (.agg #[.pointer (some ⟨3,184,none⟩),.pointer (some ⟨w.heap.size,0,none⟩),.int .u64 150]) (w.alloc (.cells #[.pointer (some t)] 184)):=by kernel_rfl
theorem Km (a : Addr) (w : World) : (ReflectliteValue.methodAny (ReflectliteValue.valueError "reflectlite.Value.Type" 0) (fun t _ _ _ => ReflectliteType.toType t) #[.agg #[.pointer (some ⟨3, 184, none⟩), .pointer (some a), .int .u64 150]]).run Tryz.prog w
  = .ok (.iface 251 (.agg #[.pointer (some ⟨3,184,none⟩)])) w:=by kernel_rfl
theorem Ak (h : Value) (w : World) : (Go.method 441 251 (.agg #[h]) "Kind").run Tryz.prog w = .ok (246, h) w := by kernel_rfl
theorem JZ(w:World):((ReflectliteType.abiMethod fun t=>(fun a:Nat=>Value.int IntKind.u8 (a:Int)) <$> Rtype.kind t) #[.pointer (some ⟨3,184,none⟩)]).run Tryz.prog w=.ok (.int .u8 22) w:=by kernel_rfl
theorem JY(w:World):((ReflectliteType.abiMethod fun t=>(fun a:Nat=>Value.int IntKind.u8 (a:Int)) <$> Rtype.kind t) #[.pointer (some ⟨3,182,none⟩)]).run Tryz.prog w=.ok (.int .u8 25) w:=by kernel_rfl
theorem FQ(a:Addr)(w:World):(ReflectliteValue.parts (.agg #[.pointer (some ⟨3,184,none⟩),.pointer (some a),.int .u64 150])).run Tryz.prog w=.ok (some (184,a,150)) w:=by kernel_rfl
theorem Jo(a p:Addr)(W:World)(ha:W.cell? a=some (.pointer (some p))):
  (ReflectliteValue.method (ReflectliteValue.valueError "reflectlite.Value.IsNil" 0) ReflectliteValue.isNil #[.agg #[.pointer (some ⟨3, 184, none⟩), .pointer (some a), .int .u64 150]]).run Tryz.prog W = .ok (.bool false) W := by
 change Sem.run _ (ReflectliteValue.parts (.agg #[.pointer (some ⟨3,184,none⟩),.pointer (some a),.int .u64 150]) >>= _) W=_;simp only[Sem.run_bind,FQ,Result.andThen];simp[ReflectliteValue.isNil,loadVar,isAgg,underlying,Tryz.underlying184,ha,Result.andThen]
theorem Aj (h : Value) (w : World) : (Go.method 441 251 (.agg #[h]) "Elem").run Tryz.prog w = .ok (266, .agg #[h]) w := by kernel_rfl
theorem oL (h : Value) (w : World) : (Go.method 441 251 (.agg #[h]) "Implements").run Tryz.prog w = .ok (267, .agg #[h]) w := by kernel_rfl
theorem mQ (h : Value) (w : World) : (Go.method 441 251 (.agg #[h]) "AssignableTo").run Tryz.prog w = .ok (264, .agg #[h]) w := by kernel_rfl
theorem Jh(w:World):(ReflectliteType.method ReflectliteType.elem #[.agg #[.pointer (some ⟨3,184,none⟩)]]).run Tryz.prog w=.ok (.iface 251 (.agg #[.pointer (some ⟨3,182,none⟩)])) w:=by kernel_rfl
theorem yg (w : World) : (ReflectliteType.relation "Implements" ReflectliteType.implements_ #[.agg #[.pointer (some ⟨3, 182, none⟩)], .iface 251 (.agg #[.pointer (some ⟨3, 129, none⟩)])]).run Tryz.prog w = .ok (.bool true) w := by kernel_rfl
theorem Iv(v:Value)(w:World):(ReflectliteType.typeOf #[.iface 182 v]).run Tryz.prog w=.ok (.iface 251 (.agg #[.pointer (some ⟨3,182,none⟩)])) w:=by kernel_rfl
theorem xC (w : World) : (ReflectliteType.relation "AssignableTo" ReflectliteType.assignableTo #[.agg #[.pointer (some ⟨3, 182, none⟩)], .iface 251 (.agg #[.pointer (some ⟨3, 182, none⟩)])]).run Tryz.prog w = .ok (.bool true) w := by kernel_rfl
theorem GF(c:Int)(w:World):(ReflectliteValue.unpack (.iface 182 (.agg #[.int .i64 c]))).run Tryz.prog w
  = .ok (.agg #[.pointer (some ⟨3,182,none⟩),.pointer (some ⟨w.heap.size,0,none⟩),.int .u64 153]) (w.alloc (.cells #[.int .i64 c] 182)):=by kernel_rfl
theorem Hi(w:World):(Rtype.elem? 184).run Tryz.prog w=.ok (some 182) w:=by kernel_rfl
theorem mkE(p:Addr)(w:World):(ReflectliteValue.mk 182 p ReflectliteValue.flagAddr).run Tryz.prog w=.ok (.agg #[.pointer (some ⟨3,182,none⟩),.pointer (some p),.int .u64 409]) w:=by kernel_rfl
theorem JU(a p:Addr)(W:World)(ha:W.cell? a=some (.pointer (some p))):
  (ReflectliteValue.method (ReflectliteValue.valueError "reflectlite.Value.Elem" 0) ReflectliteValue.elem #[.agg #[.pointer (some ⟨3, 184, none⟩), .pointer (some a), .int .u64 150]]).run Tryz.prog W
   = .ok (.agg #[.pointer (some ⟨3,182,none⟩),.pointer (some p),.int .u64 409]) W:=by
 change Sem.run _ (ReflectliteValue.parts (.agg #[.pointer (some ⟨3,184,none⟩),.pointer (some a),.int .u64 150]) >>= _) W=_;simp only[Sem.run_bind,FQ,Result.andThen];simp[ReflectliteValue.elem,loadVar,isAgg,underlying,Tryz.underlying184,ha,Result.andThen,Hi,mkE]
theorem Id(a:Addr)(w:World):(ReflectliteValue.parts (.agg #[.pointer (some ⟨3,182,none⟩),.pointer (some a),.int .u64 409])).run Tryz.prog w=.ok (some (182,a,409)) w:=by kernel_rfl
theorem JB(a:Addr)(w:World):(ReflectliteValue.parts (.agg #[.pointer (some ⟨3,182,none⟩),.pointer (some a),.int .u64 153])).run Tryz.prog w=.ok (some (182,a,153)) w:=by kernel_rfl
theorem Hh(w:World):(Rtype.directlyAssignable 182 182).run Tryz.prog w=.ok true w:=by kernel_rfl
theorem setE(tb to_:Nat)(b:Nat)(c:Int)(old:Value)(W:World)(hb:W.cell? ⟨b,0,none⟩=some (.int .i64 c))(ht:W.cell? ⟨tb,to_,none⟩=some old)(hf:W.frozen? ⟨tb,to_,none⟩=false):
  (ReflectliteValue.set #[.agg #[.pointer (some ⟨3,182,none⟩),.pointer (some ⟨tb,to_,none⟩),.int .u64 409],.agg #[.pointer (some ⟨3,182,none⟩),.pointer (some ⟨b,0,none⟩),.int .u64 153]]).run Tryz.prog W
   = .ok (.tuple #[]) (W.setCell ⟨tb,to_,none⟩ (.int .i64 c)):=by
 change Sem.run _ (ReflectliteValue.parts (.agg #[.pointer (some ⟨3,182,none⟩),.pointer (some ⟨tb,to_,none⟩),.int .u64 409]) >>= fun r=>ReflectliteValue.parts (.agg #[.pointer (some ⟨3,182,none⟩),.pointer (some ⟨b,0,none⟩),.int .u64 153]) >>= _) W=_;simp only[Sem.run_bind,Id,JB,Result.andThen]
 have hl:(loadCells ⟨b,0,none⟩ 1).run Tryz.prog W=.ok #[.int .i64 c] W:=by
  have:=run_loadCells_list (P:=Tryz.prog) W ⟨b,0,none⟩ [.int .i64 c] (fun j v hj=>by
   match j,hj with
   | 0,hj=>simp at hj;subst hj;simpa[Addr.add] using hb)
  simpa using this
 simp[ReflectliteValue.flagAddr,loadVar,isAgg,underlying,Tryz.underlying182,Result.andThen,Hh,storeVar,Value.cells,storeCells,Addr.add,hl];rw[run_store Tryz.prog W ⟨tb,to_,none⟩ _ _ (by rfl)];simp[ht,hf]
theorem Ja(c:Int)(tb to_:Nat)(old:Value)(w:World)(hg:w.cell? ⟨2,0,none⟩=some (.iface 251 (.agg #[.pointer (some ⟨3,129,none⟩)])))(ht0:w.cell? ⟨tb,to_,none⟩=some old)(hf0:w.frozen? ⟨tb,to_,none⟩=false):
  Calls Tryz.prog 129 #[.iface 182 (.agg #[.int .i64 c]),.iface 184 (.pointer (some ⟨tb,to_,none⟩))] w fun ev w'=>ev=.returned (.bool true)∧w'=((((w.alloc (.cells #[.pointer (some ⟨tb,to_,none⟩)] 184)).alloc (.cells #[.pointer (some ⟨3,184,none⟩),.pointer (some ⟨w.heap.size,0,none⟩),.int .u64 150] 222)).alloc (.cells #[.pointer (some ⟨3,184,none⟩),.pointer (some ⟨w.heap.size,0,none⟩),.int .u64 150] 222)).alloc (.cells #[.int .i64 c] 182)).setCell ⟨tb,to_,none⟩ (.int .i64 c):=by
 have h6 := @run_callFunc_extern Tryz.prog 166 _ (fun args => ReflectliteValue.unpack (args.getD 0 (.tuple #[]))) Tryz.func166 (by kernel_rfl) (by kernel_rfl) (by kernel_rfl) (by kernel_rfl);have h7 := @run_callFunc_extern Tryz.prog 167 _ (ReflectliteValue.methodAny (ReflectliteValue.valueError "reflectlite.Value.Type" 0) (fun t _ _ _ => ReflectliteType.toType t)) Tryz.func167 (by kernel_rfl) (by kernel_rfl) (by kernel_rfl) (by kernel_rfl);have h8 := @run_callFunc_extern Tryz.prog 168 _ (ReflectliteValue.method (ReflectliteValue.valueError "reflectlite.Value.IsNil" 0) ReflectliteValue.isNil) Tryz.func168 (by kernel_rfl) (by kernel_rfl) (by kernel_rfl) (by kernel_rfl);have h27 := @run_callFunc_extern Tryz.prog 246 _ (ReflectliteType.abiMethod fun t => do pure (.int .u8 (← Rtype.kind t))) Tryz.func246 (by kernel_rfl) (by kernel_rfl) (by kernel_rfl) (by kernel_rfl);have h37 := @run_callFunc_extern Tryz.prog 266 _ (ReflectliteType.method ReflectliteType.elem) Tryz.func266 (by kernel_rfl) (by kernel_rfl) (by kernel_rfl) (by kernel_rfl);have h38 := @run_callFunc_extern Tryz.prog 267 _ (ReflectliteType.relation "Implements" ReflectliteType.implements_) Tryz.func267 (by kernel_rfl) (by kernel_rfl) (by kernel_rfl) (by kernel_rfl);have h10 := @run_callFunc_extern Tryz.prog 161 _ ReflectliteType.typeOf Tryz.func161 (by kernel_rfl) (by kernel_rfl) (by kernel_rfl) (by kernel_rfl);have h35 := @run_callFunc_extern Tryz.prog 264 _ (ReflectliteType.relation "AssignableTo" ReflectliteType.assignableTo) Tryz.func264 (by kernel_rfl) (by kernel_rfl) (by kernel_rfl) (by kernel_rfl);have h11 := @run_callFunc_extern Tryz.prog 195 _ (ReflectliteValue.method (ReflectliteValue.valueError "reflectlite.Value.Elem" 0) ReflectliteValue.elem) Tryz.func195 (by kernel_rfl) (by kernel_rfl) (by kernel_rfl) (by kernel_rfl);have h12 := @run_callFunc_extern Tryz.prog 196 _ ReflectliteValue.set Tryz.func196 (by kernel_rfl) (by kernel_rfl) (by kernel_rfl) (by kernel_rfl);have tO := Iv;have mA := mQ;have a25 := xC;have v25 := GF;have f6 := GG;have f7 := Km;have mK := Ak;have mE := Aj;have mI := oL;have k27 := JZ;have k25 := JY;have e27 := Jh;have i25 := yg;have n8 := Jo ⟨w.heap.size, 0, none⟩ ⟨tb, to_, none⟩ ((w.alloc (.cells #[.pointer (some ⟨tb, to_, none⟩)] 184)).alloc (.cells #[.pointer (some ⟨3, 184, none⟩), .pointer (some ⟨w.heap.size, 0, none⟩), .int .u64 150] 222)) (by simp);have hlt : 2 < w.heap.size := World.block_lt_of_cell? w _ hg
 have hg2:((w.alloc (.cells #[.pointer (some ⟨tb,to_,none⟩)] 184)).alloc (.cells #[.pointer (some ⟨3,184,none⟩),.pointer (some ⟨w.heap.size,0,none⟩),.int .u64 150] 222)).cell? ⟨2,0,none⟩=some (.iface 251 (.agg #[.pointer (some ⟨3,129,none⟩)])):=by
  rw[World.cell?_alloc_lt _ _ ⟨2,0,none⟩ (by simp;omega),World.cell?_alloc_lt _ _ ⟨2,0,none⟩ hlt];exact hg
 have htl:tb<w.heap.size:=by
  rcases Nat.lt_or_ge tb w.heap.size with h | h
  ·exact h
  ·simp[World.cell?,Array.getElem?_eq_none h]at ht0
 have el:=JU ⟨w.heap.size,0,none⟩ ⟨tb,to_,none⟩ (((w.alloc (.cells #[.pointer (some ⟨tb,to_,none⟩)] 184)).alloc (.cells #[.pointer (some ⟨3,184,none⟩),.pointer (some ⟨w.heap.size,0,none⟩),.int .u64 150] 222)).alloc (.cells #[.pointer (some ⟨3,184,none⟩),.pointer (some ⟨w.heap.size,0,none⟩),.int .u64 150] 222)) (by rw[World.cell?_alloc_lt _ _ ⟨w.heap.size,0,none⟩ (by simp;omega)];simp)
 have st:=setE tb to_ (w.heap.size+1+1+1) c old ((((w.alloc (.cells #[.pointer (some ⟨tb,to_,none⟩)] 184)).alloc (.cells #[.pointer (some ⟨3,184,none⟩),.pointer (some ⟨w.heap.size,0,none⟩),.int .u64 150] 222)).alloc (.cells #[.pointer (some ⟨3,184,none⟩),.pointer (some ⟨w.heap.size,0,none⟩),.int .u64 150] 222)).alloc (.cells #[.int .i64 c] 182))
  (by rw[World.cell?_alloc_at _ _ _ _ (by simp)];rfl)
  (by rw[World.cell?_alloc_lt _ _ ⟨tb,to_,none⟩ (by simp;omega),World.cell?_alloc_lt _ _ ⟨tb,to_,none⟩ (by simp;omega),World.cell?_alloc_lt _ _ ⟨tb,to_,none⟩ (by simp;omega),World.cell?_alloc_lt _ _ ⟨tb,to_,none⟩ htl];exact ht0)
  (by rw[World.frozen?_alloc_old _ _ ⟨tb,to_,none⟩ (by simp;omega),World.frozen?_alloc_old _ _ ⟨tb,to_,none⟩ (by simp;omega),World.frozen?_alloc_old _ _ ⟨tb,to_,none⟩ (by simp;omega),World.frozen?_alloc_old _ _ ⟨tb,to_,none⟩ (Nat.ne_of_lt htl)];exact hf0)
 go_enter Tryz.func129,Tryz.ntmps129;go_wp2;refine wp_loop_rounds 1 ?_;rw[rounds_succ];go_wp2;go_ret;exact⟨rfl,rfl⟩
end
section
open Go.Value renaming int → J
open Go.IntKind renaming i64 → Z
open Go.RowKit
def fz(w:World):Prop:=w.cell? ⟨2,0,none⟩=some (.iface 251 (.agg #[.pointer (some ⟨3,129,none⟩)]))
variable {w:World}
theorem zW(h:fz w):2<w.heap.size:=World.block_lt_of_cell? w _ h
theorem jz{w':World}(h:fz w)(hb:Below w.heap.size w w'):fz w':=by
 unfold fz;rw[hb.cell (p:=⟨2,0,none⟩) (zW h)];exact h
theorem my(h:fz w)(o:Obj):fz (w.alloc o):=jz h ((Below.refl _ _).alloc (Nat.le_refl _) _)
theorem yN(s:ByteArray)(p:Int)(w:World)(h:p<0):
  Calls Tryz.prog 164 #[.string s,J Z p] w fun e w'=>e=.returned (.tuple #[J Z 0,J Z 0,.iface 182 (.agg #[J Z 1])])∧w'=w:=by
 go_enter Tryz.func164,Tryz.ntmps164;go_wp2;go_step3
 go_wp2;rw[Exit.noGoto_ret];go_ret3
 exact⟨rfl,rfl⟩
theorem iL{B:Nat}{a:World}(h:Below B a w)(hB:B≤a.heap.size)(o:Obj):Below B a (w.alloc o):=h.alloc (Nat.le_trans hB h.size) o
def co(s:ByteArray)(p:Int):Except Int (Nat×Nat):=if p<0 then .error 1 else de s p.toNat 10 0 0
theorem js(s:ByteArray)(p:Int)(w:World)(hs:s.size≤8000)(h1:p≤9223372036854775807):
  Calls Tryz.prog 164 #[.string s,J Z p] w fun e w'=>e=.returned (oO (co s p))∧w'=w:=by
 by_cases h:p<0
 ·rw[co,if_pos h];exact yN s p w h
 ·obtain⟨n,rfl⟩:∃n:Nat,p=(n:Int):=⟨p.toNat,by omega⟩
  rw[co,if_neg h,Int.toNat_natCast];exact yL s n w hs h1
def BU:Except Int (Nat×Nat)→Value
 | .error c=>.agg #[J Z 0,J Z 0,J Z c]
 | .ok x=>.agg #[J Z (unf x.1),J Z (x.2:Int),J Z 0]
def kr(s:ByteArray)(p:Int):Value:=if 8000<s.size then .agg #[J Z 0,J Z 0,J Z 2] else BU (co s p)
theorem Il(u c i:Nat)(hi:i≤9)(hu:u<2 ^ (7*i))(h9:i=9→c≤1):
  IntKind.u64.wrap ((u:Int)+IntKind.u64.wrap ((c:Int) % 128*2 ^ (7*i)))=((u+c % 128*2 ^ (7*i):Nat):Int):=by
 have hb:=iJ u c i hi hu h9;have hp:(c:Int) % 128*2 ^ (7*i)=((c % 128*2 ^ (7*i):Nat):Int):=by push_cast;rfl
 rw[hp,on,on];generalize c % 128*2 ^ (7*i)=x at *;omega
theorem qv(s:ByteArray)(p:Nat)(w:World)(hs:s.size≤8000)(h1:(p:Int)≤9223372036854775807):
  Calls Tryz.prog 83 #[.string s,J Z (p:Int)] w fun e w'=>e=.returned (BU (de s p 10 0 0))∧Below w.heap.size w w':=by
 go_enter Tryz.func83,Tryz.ntmps83;go_wp2;go_loop [5,6] (fun t i=>∃k u:Nat,k≤9∧i=J Z k∧t=.int .u64 u∧u<2 ^ (7*k)∧de s p 10 0 0=de s p (9-k+1) k u) (fun _ i=>10-(intOf i).toNat)
 case atStart=>exact⟨0,0,by omega,rfl,rfl,by simp,rfl⟩
 case round=>
  obtain⟨k,u,hk,rfl,rfl,hu,he⟩:=hrel;by_cases hlt:p+k<s.size
  ·have hb:s[p+k].toNat<256:=UInt8.toNat_lt _;have hul:(u:Int)≤9223372036854775807:=by have:=IR hk;omega
   by_cases hw:k=9∧1<s[p+k].toNat
   ·have HN:=yz (he.trans (sL (s:=s) (p:=p) (k:=9-k) (i:=k) (u:=u) hlt hw.1 hw.2));have hkb:((k:Int)==9)=true:=by simp;omega
    have hc1:(1:Int)<(s[p+k].toNat:Int):=by omega
    clear he hu hw;go_wp2;exact bodyPost_ret (v:=.agg #[J Z 0,J Z 0,J Z 3]) (by simp[results,Tryz.results83,go_sem]) rfl ⟨by rw[yx HN];rfl,(Below.refl _ _).alloc (Nat.le_refl _) _⟩
   ·have hO:=Il u s[p+k].toNat k hk hu (by omega);have HB:=iJ u s[p+k].toNat k hk hu (by omega);have HP:=yz (jv u s[p+k].toNat k hu);by_cases hc:s[p+k].toNat<128
    ·have HN:=yz (he.trans (lV (s:=s) (p:=p) (k:=9-k) (i:=k) (u:=u) hlt (by omega) hc));clear he hu HP;generalize u+s[p+k].toNat % 128*2 ^ (7*k)=U at *;have hc':(s[p+k].toNat:Int)<128:=by omega
     have hUb:(U:Int)≤18446744073709551615:=by omega
     by_cases hz:s[p+k].toNat=0∧0<k
     ·have HN2:=yz (show de s p 10 0 0=.error 3 by rw[yx HN,if_pos hz]);have hz1:((s[p+k].toNat:Int)==0)=true:=by simp;omega
      have hz2:(0:Int)<(k:Int):=by omega
      have hkb:((k:Int)==9)=true∨((k:Int)==9)=false:=by cases h:((k:Int)==9)<;>simp
      have hc1:decide ((1:Int)<(s[p+k].toNat:Int))=false:=by simp;omega
      clear hw hz HB HN;rcases hkb with hkb | hkb
      all_goals
       go_wp2;exact bodyPost_ret (v:=.agg #[J Z 0,J Z 0,J Z 3]) (by simp[results,Tryz.results83,go_sem]) rfl ⟨by rw[yx HN2];rfl,(Below.refl _ _).alloc (Nat.le_refl _) _⟩
     ·have HN2:=yz (show de s p 10 0 0=.ok (U,p+k+1) by rw[yx HN,if_neg hz])
      have hz1:(((s[p+k].toNat:Int)==0)=true∧k≤0∧((k:Int)==9)=false)∨(((s[p+k].toNat:Int)==0)=false∧((k:Int)==9)=true∧(s[p+k].toNat:Int)≤1)∨(((s[p+k].toNat:Int)==0)=false∧((k:Int)==9)=false):=by
       by_cases h:s[p+k].toNat=0
       ·exact .inl ⟨by simp;omega,by omega,by simp;omega⟩
       ·by_cases h9:k=9
        ·exact .inr (.inl ⟨by simp;omega,by simp;omega,by omega⟩)
        ·exact .inr (.inr ⟨by simp;omega,by simp;omega⟩)
      clear hw hz HB HN;by_cases hpar:U % 2=1
      ·have hp1:((U:Int) % 2==1)=true:=by simp;omega
       have HF:=yz (show unf U = -((U:Int) / 2)-1 by unfold unf;rw[if_pos hpar];omega);clear hpar;rcases hz1 with ⟨hz1,hz2,hkb⟩ | ⟨hz1,hkb,hz2⟩ | ⟨hz1,hkb⟩
       all_goals
        go_wp2;exact bodyPost_ret (v:=.agg #[J Z (-((U:Int) / 2)-1),J Z ((p:Int)+k+1),J Z 0]) (by simp[results,Tryz.results83,go_sem]) rfl ⟨by rw[yx HN2,←yx HF];simp[BU],(Below.refl _ _).alloc (Nat.le_refl _) _⟩
      ·have hp1:((U:Int) % 2==1)=false:=by simp;omega
       have HF:=yz (show unf U=(U:Int) / 2 by unfold unf;rw[if_neg hpar];omega);clear hpar;rcases hz1 with ⟨hz1,hz2,hkb⟩ | ⟨hz1,hkb,hz2⟩ | ⟨hz1,hkb⟩
       all_goals
        go_wp2;exact bodyPost_ret (v:=.agg #[J Z ((U:Int) / 2),J Z ((p:Int)+k+1),J Z 0]) (by simp[results,Tryz.results83,go_sem]) rfl ⟨by rw[yx HN2,←yx HF];simp[BU],(Below.refl _ _).alloc (Nat.le_refl _) _⟩
    ·have hk9:k<9:=by omega
     have HN:=yz (he.trans (oX (s:=s) (p:=p) (k:=9-k) (i:=k) (u:=u) hlt hk9 hc));have HM:=yz (show de s p 10 0 0=de s p (9-(k+1)+1) (k+1) (u+s[p+k].toNat % 128*2 ^ (7*k)) by rw[show 9-(k+1)+1=9-k by omega];exact yx HN);have hkb:((k:Int)==9)=false:=by simp;omega
     have hc':(128:Int)≤(s[p+k].toNat:Int):=by omega
     have hUb:((u+s[p+k].toNat % 128*2 ^ (7*k):Nat):Int)≤18446744073709551615:=by omega
     clear he hu HB hw HN;generalize u+s[p+k].toNat % 128*2 ^ (7*k)=U at *;go_wp2;go_round
     case rel=>exact⟨k+1,U,by omega,by go_num,rfl,yx HP,yx HM⟩
     case measure=>simp[intOf];omega
  ·have HN:=yz (he.trans (mX (s:=s) (p:=p) (k:=9-k) (i:=k) (u:=u) (by omega)));clear he hu;go_wp2;exact bodyPost_ret (v:=.agg #[J Z 0,J Z 0,J Z 4]) (by simp[results,Tryz.results83,go_sem]) rfl ⟨by rw[yx HN];rfl,(Below.refl _ _).alloc (Nat.le_refl _) _⟩
theorem iY(s:ByteArray)(p:Int)(w:World)(hs:s.size≤1048576)(h1:p≤9223372036854775807):
  Calls Tryz.prog 83 #[.string s,J Z p] w fun e w'=>e=.returned (kr s p)∧Below w.heap.size w w':=by
 by_cases h8:8000<s.size
 ·rw[kr,if_pos h8];go_enter Tryz.func83,Tryz.ntmps83;go_wp2;exact bodyPost_ret (v:=.agg #[J Z 0,J Z 0,J Z 2]) (by simp[results,Tryz.results83,go_sem]) rfl ⟨rfl,(Below.refl _ _).alloc (Nat.le_refl _) _⟩
 ·by_cases h:p<0
  ·rw[kr,if_neg h8,co,if_pos h];go_enter Tryz.func83,Tryz.ntmps83;go_wp2;exact bodyPost_ret (v:=.agg #[J Z 0,J Z 0,J Z 1]) (by simp[results,Tryz.results83,go_sem]) rfl ⟨rfl,(Below.refl _ _).alloc (Nat.le_refl _) _⟩
  ·obtain⟨n,rfl⟩:∃n:Nat,p=(n:Int):=⟨p.toNat,by omega⟩
   rw[kr,if_neg h8,co,if_neg h,Int.toNat_natCast];exact qv s n w (by omega) h1
variable {s:ByteArray}
theorem Cg{p:Nat}:∀(k i u:Nat) (x:Nat×Nat),i+k≤10→u<2 ^ (7*i)→de s p k i u=.ok x→x.2≤s.size∧x.1<18446744073709551616
 | 0,i,u,x,_,_,h=>by simp[de]at h
 | k+1,i,u,x,hik,hu,h=>by
  rw[de]at h;split at h
  ·simp at h
  ·rename_i h1
   split at h
   ·simp at h
   ·rename_i h2
    split at h
    ·split at h
     ·simp at h
     ·simp at h;subst h;exact⟨by simp;omega,iJ u _ i (by omega) hu (by omega)⟩
    ·rename_i h3
     have h9:i<9:=by omega
     exact Cg k (i+1) _ x (by omega) (jv u _ i hu) h
theorem mV{p:Int}{x:Nat×Nat}(h:co s p=.ok x):x.2≤s.size∧x.1<18446744073709551616:=by
 unfold co at h;split at h
 ·simp at h
 ·exact Cg 10 0 0 x (by omega) (by simp) h
def bR(s:ByteArray)(p:Int):Except Int (ByteArray×Nat):=
 match co s p with
 | .error c=>.error c
 | .ok x=>if unf x.1<0∨8000<unf x.1 then .error 3 else if (s.size:Int)-(x.2:Int)<unf x.1 then .error 4 else .ok (s.extract x.2 (x.2+(unf x.1).toNat),x.2+(unf x.1).toNat)
def Ip:Except Int (ByteArray×Nat)→Value
 | .error c=>.tuple #[.string ⟨#[]⟩,J Z 0,.iface 182 (.agg #[J Z c])]
 | .ok x=>.tuple #[.string x.1,J Z (x.2:Int),.nilIface]
def qR:Except Int (ByteArray×Nat)→Value
 | .error c=>.agg #[.string ⟨#[]⟩,J Z 0,J Z c]
 | .ok x=>.agg #[.string x.1,J Z (x.2:Int),J Z 0]
theorem iz(s:ByteArray)(p:Int)(w:World)(hs:s.size≤8000)(h1:p≤9223372036854775807):
  Calls Tryz.prog 128 #[.string s,J Z p] w fun e w'=>e=.returned (Ip (bR s p))∧Below w.heap.size w w':=by
 cases hr:co s p with
 | error c=>
  have HC:=yz (fun w=>(by have:=js s p w hs h1;rw[hr]at this;exact this:Calls Tryz.prog 164 #[.string s,J Z p] w fun e w'=>e=.returned (.tuple #[J Z 0,J Z 0,.iface 182 (.agg #[J Z c])])∧w'=w));have HT:=yz (show bR s p=.error c by unfold bR;rw[hr]);clear hr;go_enter Tryz.func128,Tryz.ntmps128;go_wp2_with fail;refine(yx HC _).mono ?_;rintro e w' ⟨rfl,rfl⟩;go_wp2;go_ret3
  exact⟨by rw[yx HT];rfl,Below.refl _ _⟩
 | ok x=>
  have hb:=mV hr;have hur:=vD x.1 hb.2;have HC:=yz (fun w=>(by have:=js s p w hs h1;rw[hr]at this;exact this:Calls Tryz.prog 164 #[.string s,J Z p] w fun e w'=>e=.returned (.tuple #[J Z (unf x.1),J Z (x.2:Int),.nilIface])∧w'=w));have HT:=yz (show bR s p=if unf x.1<0∨8000<unf x.1 then .error 3 else if (s.size:Int)-(x.2:Int)<unf x.1 then .error 4 else .ok (s.extract x.2 (x.2+(unf x.1).toNat),x.2+(unf x.1).toNat) by unfold bR;rw[hr]);have hq:=hb.1;clear hr hb;generalize unf x.1=n at *;generalize x.2=q at *;by_cases hn:n<0∨8000<n
  ·have HT2:=yz (show bR s p=.error 3 by rw[yx HT,if_pos hn]);have hn2:n<0∨(0≤n∧8000<n):=by omega
   rcases hn2 with hn0 | hn0
   all_goals
    clear hn HT;go_enter Tryz.func128,Tryz.ntmps128;go_wp2_with fail;refine(yx HC _).mono ?_;rintro e w' ⟨rfl,rfl⟩;go_wp2;go_ret3
    exact⟨by rw[yx HT2];rfl,Below.refl _ _⟩
  ·by_cases hsh:(s.size:Int)-(q:Int)<n
   ·have HT2:=yz (show bR s p=.error 4 by rw[yx HT,if_neg hn,if_pos hsh]);have hn0:0≤n:=by omega
    have hn8:n≤8000:=by omega
    clear hn HT hur;go_enter Tryz.func128,Tryz.ntmps128;go_wp2_with fail;refine(yx HC _).mono ?_;rintro e w' ⟨rfl,rfl⟩;go_wp2;go_ret3
    exact⟨by rw[yx HT2];rfl,Below.refl _ _⟩
   ·have HT2:=yz (show bR s p=.ok (s.extract q (q+n.toNat),q+n.toNat) by rw[yx HT,if_neg hn,if_neg hsh]);obtain⟨m,rfl⟩:∃m:Nat,n=(m:Int):=⟨n.toNat,by omega⟩
    rw[Int.toNat_natCast]at HT2;have hm8:m≤8000:=by omega
    have hqm:q+m≤s.size:=by omega
    have hqi:(q:Int)≤(q:Int)+(m:Int)∧(q:Int)+(m:Int)≤(s.size:Int):=by omega
    clear hn HT hur hsh;go_enter Tryz.func128,Tryz.ntmps128;go_wp2_with fail;refine(yx HC _).mono ?_;rintro e w' ⟨rfl,hw⟩;obtain rfl:=hw.symm;go_wp2_with fail;refine(mB _ _ (by simp;omega)).mono ?_;rintro e w1 ⟨rfl,hb1⟩;go_wp2;go_ret3
    exact⟨by rw[yx HT2];rfl,hb1⟩
theorem sN{w w1:World}{T:TypeId}{v0 v1 v2:Value}(hb:Below (w.alloc (.cells #[v0,v1,v2] T)).heap.size (w.alloc (.cells #[v0,v1,v2] T)) w1):
  w1.cell? ⟨w.heap.size,0,none⟩=some v0∧w1.cell? ⟨w.heap.size,1,none⟩=some v1∧w1.cell? ⟨w.heap.size,2,none⟩=some v2 ∧
  w1.frozen? ⟨w.heap.size,0,none⟩=false∧w1.frozen? ⟨w.heap.size,1,none⟩=false∧w1.frozen? ⟨w.heap.size,2,none⟩=false∧w.heap.size<w1.heap.size∧Below w.heap.size w w1:=by
 have hlt:w.heap.size<(w.alloc (.cells #[v0,v1,v2] T)).heap.size:=by simp
 refine⟨?_,?_,?_,?_,?_,?_,Nat.lt_of_lt_of_le hlt hb.size,((Below.refl _ w).alloc (Nat.le_refl _) _).trans (hb.mono (Nat.le_of_lt hlt))⟩
 ·rw[hb.cell (p:=⟨w.heap.size,0,none⟩) hlt];simp
 ·rw[hb.cell (p:=⟨w.heap.size,1,none⟩) hlt];simp
 ·rw[hb.cell (p:=⟨w.heap.size,2,none⟩) hlt];simp
 ·rw[hb.frozen (p:=⟨w.heap.size,0,none⟩) hlt];simp
 ·rw[hb.frozen (p:=⟨w.heap.size,1,none⟩) hlt];simp
 ·rw[hb.frozen (p:=⟨w.heap.size,2,none⟩) hlt];simp
theorem xB(c:Int)(w0:World)(hg:fz w0):
  Calls Tryz.prog 129 #[.iface 182 (.agg #[J Z c]),.iface 184 (.pointer (some ⟨w0.heap.size,0,none⟩))] (w0.alloc (.cells #[J Z 0] 182))
   fun ev w'=>ev=.returned (.bool true)∧w'.cell? ⟨w0.heap.size,0,none⟩=some (J Z c)∧Below w0.heap.size w0 w':=by
 have hc:(w0.alloc (.cells #[J Z 0] 182)).cell? ⟨w0.heap.size,0,none⟩=some (J Z 0):=by simp
 refine(Ja c w0.heap.size 0 (J Z 0) _ (my hg _) hc (by simp)).mono ?_;rintro e w' ⟨rfl,rfl⟩;refine⟨rfl,?_,?_⟩
 ·refine World.cell?_setCell_same _ _ _ (?_:_=some (J Z 0));rw[World.cell?_alloc_lt _ _ ⟨w0.heap.size,0,none⟩ (by simp;omega),World.cell?_alloc_lt _ _ ⟨w0.heap.size,0,none⟩ (by simp;omega),World.cell?_alloc_lt _ _ ⟨w0.heap.size,0,none⟩ (by simp;omega),World.cell?_alloc_lt _ _ ⟨w0.heap.size,0,none⟩ (by simp)];exact hc
 ·exact(iL (iL (iL (iL (iL (Below.refl _ _) (Nat.le_refl _) _) (Nat.le_refl _) _) (Nat.le_refl _) _) (Nat.le_refl _) _) (Nat.le_refl _) _).setCell (Nat.le_refl _) _
def eo(s:ByteArray)(p:Int):Value:=if 8000<s.size then .agg #[.string ⟨#[]⟩,J Z 0,J Z 2] else qR (bR s p)
theorem qi(s:ByteArray)(p:Int)(w:World)(hs:s.size≤1048576)(h1:p≤9223372036854775807)(hg:fz w):
  Calls Tryz.prog 93 #[.string s,J Z p] w fun e w'=>e=.returned (eo s p)∧Below w.heap.size w w':=by
 by_cases h8:8000<s.size
 ·rw[eo,if_pos h8];clear hg;go_enter Tryz.func93,Tryz.ntmps93;go_wp2;exact bodyPost_ret (v:=.agg #[.string ⟨#[]⟩,J Z 0,J Z 2]) (by simp[results,Tryz.results93,go_sem]) rfl ⟨rfl,(Below.refl _ _).alloc (Nat.le_refl _) _⟩
 ·rw[eo,if_neg h8];have h8':s.size≤8000:=by omega
  have HG:=yz hg;clear hg;cases hr:bR s p with
  | error c=>
   have HC:=yz (fun w=>(by have:=iz s p w h8' h1;rw[hr]at this;exact this:Calls Tryz.prog 128 #[.string s,J Z p] w fun e w'=>e=.returned (.tuple #[.string ⟨#[]⟩,J Z 0,.iface 182 (.agg #[J Z c])])∧Below w.heap.size w w'));clear hr;go_enter Tryz.func93,Tryz.ntmps93;go_wp2_with fail;refine(yx HC _).mono ?_;rintro e w1 ⟨rfl,hb1⟩;have HG1:=jz (my (yx HG) _) hb1;have HL:=yz HG1;clear HG1;go_wp2_with fail;refine(xB c w1 (yx HL)).mono ?_;rintro e w2 ⟨rfl,hcc,hb2⟩;obtain⟨c0,c1,c2,f0,f1,f2,hz,hB⟩:=sN (hb1.trans (hb2.mono hb1.size));clear hb1 hb2;go_wp2;exact bodyPost_ret (v:=.agg #[.string ⟨#[]⟩,J Z 0,J Z c]) (by simp[results,Tryz.results93,go_sem,c0,c1,c2]) rfl ⟨rfl,((hB.setCell (by simp) _).setCell (by simp) _).setCell (by simp) _⟩
  | ok x=>
   have HC:=yz (fun w=>(by have:=iz s p w h8' h1;rw[hr]at this;exact this:Calls Tryz.prog 128 #[.string s,J Z p] w fun e w'=>e=.returned (.tuple #[.string x.1,J Z (x.2:Int),.nilIface])∧Below w.heap.size w w'));clear hr;go_enter Tryz.func93,Tryz.ntmps93;go_wp2_with fail;refine(yx HC _).mono ?_;rintro e w1 ⟨rfl,hb1⟩;obtain⟨c0,c1,c2,f0,f1,f2,hz,hB⟩:=sN hb1;clear hb1;go_wp2_with fail;refine(Jb _ _).mono ?_;rintro e w' ⟨rfl,hw⟩;have hB2:Below w.heap.size w w':=by rw[hw];exact iL hB (Nat.le_refl _) _
   have d0:w'.cell? ⟨w.heap.size,0,none⟩=some (.string ⟨#[]⟩):=by rw[hw,World.cell?_alloc_lt _ _ ⟨w.heap.size,0,none⟩ hz];exact c0
   have d1:w'.cell? ⟨w.heap.size,1,none⟩=some (J Z 0):=by rw[hw,World.cell?_alloc_lt _ _ ⟨w.heap.size,1,none⟩ hz];exact c1
   have d2:w'.cell? ⟨w.heap.size,2,none⟩=some (J Z 0):=by rw[hw,World.cell?_alloc_lt _ _ ⟨w.heap.size,2,none⟩ hz];exact c2
   have g0:w'.frozen? ⟨w.heap.size,0,none⟩=false:=by rw[hw,World.frozen?_alloc_old _ _ ⟨w.heap.size,0,none⟩ (Nat.ne_of_lt hz)];exact f0
   have g1:w'.frozen? ⟨w.heap.size,1,none⟩=false:=by rw[hw,World.frozen?_alloc_old _ _ ⟨w.heap.size,1,none⟩ (Nat.ne_of_lt hz)];exact f1
   have g2:w'.frozen? ⟨w.heap.size,2,none⟩=false:=by rw[hw,World.frozen?_alloc_old _ _ ⟨w.heap.size,2,none⟩ (Nat.ne_of_lt hz)];exact f2
   clear c0 c1 c2 f0 f1 f2 hw hB;go_wp2;exact bodyPost_ret (v:=.agg #[.string x.1,J Z (x.2:Int),J Z 0]) (by simp[results,Tryz.results93,go_sem,d0,d1,d2]) rfl ⟨rfl,((hB2.setCell (by simp) _).setCell (by simp) _).setCell (by simp) _⟩
end
section
open Go.Value renaming int → J
open Go.IntKind renaming i64 → Z
open Go.RowKit Go.Sort
variable {t:ByteArray} {q q':Nat} {w:World}
theorem DR{n:Int}(h:aO t q=some (n,q')):oO (de t q 10 0 0)=.tuple #[J Z n,J Z (q':Int),.nilIface]:=by
 unfold aO at h;split at h
 ·rename_i x hx
  rw[hx];injection h with h;injection h with h1 h2;rw[←h1,←h2];rfl
 ·cases h
theorem Gf(h:aO t q=none):∃c,oO (de t q 10 0 0)=.tuple #[J Z 0,J Z 0,.iface 182 (.agg #[J Z c])]:=by
 unfold aO at h;split at h
 ·cases h
 ·rename_i c hc
  exact⟨c,by rw[hc];rfl⟩
theorem DO{n:Int}(ht:t.size≤8000)(hq:q≤8000)(h:aO t q=some (n,q'))(W:World):Calls Tryz.prog 164 #[.string t,J Z (q:Int)] W fun e w'=>e=.returned (.tuple #[J Z n,J Z (q':Int),.nilIface])∧Below W.heap.size W w':=
 (js t (q:Int) W ht (by omega)).mono fun e w' hh=>⟨by rw[hh.1,co,if_neg (by omega),Int.toNat_natCast,DR h],by rw[hh.2];exact Below.refl _ _⟩
theorem FV(ht:t.size≤8000)(hq:q≤8000)(h:aO t q=none):∃c,∀W:World,Calls Tryz.prog 164 #[.string t,J Z (q:Int)] W fun e w'=>e=.returned (.tuple #[J Z 0,J Z 0,.iface 182 (.agg #[J Z c])])∧Below W.heap.size W w':=by
 obtain⟨c,hc⟩:=Gf h;exact⟨c,fun W=>(js t (q:Int) W ht (by omega)).mono fun e w' hh=>⟨by rw[hh.1,co,if_neg (by omega),Int.toNat_natCast,hc],by rw[hh.2];exact Below.refl _ _⟩⟩
theorem IM{w1:World}{g:Nat}(h:w.grownBy w1 (some g))(i:Nat)(v:Value):w.grownBy (w1.setCell ⟨g,i,none⟩ v) (some g):=
 ⟨h.os,h.tape,h.output,by simpa[World.setCell] using h.size,fun k hk hne=>by rw[Below.heap_setCell _ _ _ _ (fun e=>hne (by rw[e]))];exact h.block k hk hne⟩
theorem oG{w':World}{b:Nat}(h:Below w.heap.size w w'):w.grownBy w' (some b):=⟨h.os,h.tape,h.output,h.size,fun k hk _=>h.block k hk⟩
theorem cJ(b:Nat)(t:ByteArray)(q q':Nat)(n:Int)(w:World)(ht:t.size≤8000)(hq:q≤8000)(h:aO t q=some (n,q'))(hR:Blk w b [.string t,J Z (q:Int)] 230):
  Calls Tryz.prog 170 #[.pointer (some ⟨b,0,none⟩)] w fun e w'=>e=.returned (J Z n)∧Blk w' b [.string t,J Z (q':Int)] 230∧w.grownBy w' (some b):=by
 have cN:=yz (fun W=>DO ht hq h W);have HR:=yz hR;have r0:=cell_regrown (hR.cell 0 _ rfl);have r1:=cell_regrown (hR.cell 1 _ rfl);clear hR h;go_enter Tryz.func170,Tryz.ntmps170;go_wp2_with fail;refine bQ ?_;repeat (go_big_quiet_step (with_reducible exact aC cN))
 refine bW fun dq osq=>?_;have hx:=below_regrown w dq osq;have R1:=an HR hx;have G1:=yz (oG (b:=b) hx);generalize grow (redrawn w dq) osq=W2 at hx R1 G1 ⊢;clear hx r0 r1 cN;go_wp2_with fail;refine(ea _).mono ?_;rintro e w3 ⟨rfl,hw⟩;rw[hw];clear hw w3;have c1:=(yx R1).cell 1 _ rfl;have f1:=(yx R1).free 1;go_wp2_with fail;go_ret;exact⟨rfl,(yx R1).set 1 _,IM (yx G1) 1 _⟩
theorem dC(b:Nat)(t:ByteArray)(q:Nat)(p:Addr)(w:World)(ht:t.size≤8000)(hq:q≤8000)(h:aO t q=none)(hR:Blk w b [.string t,J Z (q:Int)] 230)(hE:ce p w):
  Calls Tryz.prog 170 #[.pointer (some ⟨b,0,none⟩)] w fun e w'=>e=ey p∧Below w.heap.size w w':=by
 obtain⟨c,cN0⟩:=FV ht hq h;have cN:=yz cN0;have HE:=yz hE;have r0:=cell_regrown (hR.cell 0 _ rfl);have r1:=cell_regrown (hR.cell 1 _ rfl);clear hR h cN0 hE;go_enter Tryz.func170,Tryz.ntmps170;go_wp2_with fail;refine bQ ?_;repeat (go_big_quiet_step (with_reducible exact aC cN))
 refine bW fun dq osq=>?_;have hx:=below_regrown w dq osq;have B1:=yz hx;generalize grow (redrawn w dq) osq=W2 at hx B1 ⊢;clear hx r0 r1 cN;go_wp2_with fail;refine(dZ p _ ((yx HE).kept (yx B1))).mono ?_;rintro e w3 ⟨rfl,hw⟩;rw[hw];clear hw w3;exact⟨rfl,rfl,yx B1⟩
end
section
open Go.Value renaming int → J
open Go.IntKind renaming i64 → Z
open Go.RowKit
theorem tS(n c g:Nat)(f:Nat→Int)(w:World)(hn:n≤1048576)(hR:eO w 113 g (n*4) f):
  Calls Tryz.prog 41 #[.slice (some ⟨g,0,none⟩) n c,J Z 1] w fun e w'=>e=.returned (J Z (1+(n:Int)*4))∧eO w' 113 g (n*4) (fun j=>1+(j:Int))∧w.grownBy w' (some g):=by
 have HR:=yz hR;clear hR;go_enter Tryz.func41,Tryz.ntmps41;go_wp2_with fail;go_loopw [1,5] (fun k i wr=>∃q:Nat,q≤n∧i=J Z q∧k=J Z (1+(q:Int)*4)∧Hid (eO wr 113 g (n*4) (fun j=>if j<q*4 then 1+(j:Int) else f j))∧Hid (w.grownBy wr (some g))) (fun _ i _=>n-(intOf i).toNat)
 case atStart=>exact⟨0,by omega,rfl,rfl,yz ((yx HR).congr (fun j hj=>by simp)),yz (gP w _)⟩
 case round=>
  obtain⟨q,hq,rfl,rfl,HO,HG⟩:=hrel;by_cases hqn:q<n
  ·have hqn2:(q:Int)<(n:Int):=by omega
   have e0:=(yx HO).cell (j:=q*4) (by omega);have f0:=(yx HO).free (q*4);have e1:=(yx HO).cell (j:=q*4+1) (by omega);have f1:=(yx HO).free (q*4+1);have e2:=(yx HO).cell (j:=q*4+2) (by omega);have f2:=(yx HO).free (q*4+2);have e3:=(yx HO).cell (j:=q*4+3) (by omega);have f3:=(yx HO).free (q*4+3);have R0:=yx HO;have R1:=R0.set (q*4) (1+(q:Int)*4);have R2:=R1.set (q*4+1) (1+(q:Int)*4+1);have R3:=R2.set (q*4+2) (1+(q:Int)*4+1+1);have R4:=R3.set (q*4+3) (1+(q:Int)*4+1+1+1)
   have HO2:Hid (eO _ 113 g (n*4) (fun j=>if j<(q+1)*4 then 1+(j:Int) else f j)):=yz (R4.congr (fun j hj=>by
    try dsimp only
    repeat' split
    all_goals omega))
   have HG2:=yz (dv (dv (dv (dv (yx HG) (q*4) (J Z (1+(q:Int)*4))) (q*4+1) (J Z (1+(q:Int)*4+1))) (q*4+2) (J Z (1+(q:Int)*4+1+1))) (q*4+3) (J Z (1+(q:Int)*4+1+1+1)));clear R0 R1 R2 R3 R4;go_wp2_with fail;go_roundw
   case rel=>exact⟨q+1,by omega,by go_num,by go_num,HO2,HG2⟩
   case measure=>simp[intOf];omega
  ·have hqn':q=n:=by omega
   subst hqn';go_wp2_with fail;go_ret;exact⟨rfl,(yx HO).congr (fun j hj=>if_pos hj),yx HG⟩
theorem tF(n c g:Nat)(w:World)(hn:n≤1048576)(hR:eO w 113 g (n*4) (fun j=>1+(j:Int))):
  Calls Tryz.prog 82 #[.slice (some ⟨g,0,none⟩) n c,J Z 1] w fun e w'=>e=.returned (J Z (1+(n:Int)*4))∧w'=w:=by
 have HR:=yz hR;clear hR;go_enter Tryz.func82,Tryz.ntmps82;go_wp2_with fail;go_loop [1,5] (fun k i=>∃q:Nat,q≤n∧i=J Z q∧k=J Z (1+(q:Int)*4)) (fun _ i=>n-(intOf i).toNat)
 case atStart=>exact⟨0,by omega,rfl,rfl⟩
 case round=>
  obtain⟨q,hq,rfl,rfl⟩:=hrel;by_cases hqn:q<n
  ·have hqn2:(q:Int)<(n:Int):=by omega
   have e0:w.cell? ⟨g,q*4,none⟩=some (J Z (1+(q:Int)*4)):=by first | (rw[(yx HR).cell (j:=q*4) (by omega)];done) | (rw[(yx HR).cell (j:=q*4) (by omega)];congr 2<;>omega)
   have e1:w.cell? ⟨g,q*4+1,none⟩=some (J Z (1+(q:Int)*4+1)):=by first | (rw[(yx HR).cell (j:=q*4+1) (by omega)];done) | (rw[(yx HR).cell (j:=q*4+1) (by omega)];congr 2<;>omega)
   have e2:w.cell? ⟨g,q*4+2,none⟩=some (J Z (1+(q:Int)*4+1+1)):=by first | (rw[(yx HR).cell (j:=q*4+2) (by omega)];done) | (rw[(yx HR).cell (j:=q*4+2) (by omega)];congr 2<;>omega)
   have e3:w.cell? ⟨g,q*4+3,none⟩=some (J Z (1+(q:Int)*4+1+1+1)):=by first | (rw[(yx HR).cell (j:=q*4+3) (by omega)];done) | (rw[(yx HR).cell (j:=q*4+3) (by omega)];congr 2<;>omega)
   go_wp2_with fail;go_round
   case rel=>exact⟨q+1,by omega,by go_num,by go_num⟩
   case measure=>simp[intOf];omega
  ·have hqn':q=n:=by omega
   subst hqn';go_wp2_with fail;go_ret;exact⟨rfl,rfl⟩
theorem sc(a:Option Addr)(c:Nat)(w:World):
  Calls Tryz.prog 41 #[.slice a 0 c,J Z 1] w fun e w'=>e=.returned (J Z 1)∧w'=w:=by
 go_enter Tryz.func41,Tryz.ntmps41;go_wp2_with fail;refine wp_loop_rounds 1 ?_;rw[rounds_succ];go_wp2_with fail;go_ret;exact⟨rfl,rfl⟩
theorem rK(a:Option Addr)(c:Nat)(w:World):
  Calls Tryz.prog 82 #[.slice a 0 c,J Z 1] w fun e w'=>e=.returned (J Z 1)∧w'=w:=by
 go_enter Tryz.func82,Tryz.ntmps82;go_wp2_with fail;refine wp_loop_rounds 1 ?_;rw[rounds_succ];go_wp2_with fail;go_ret;exact⟨rfl,rfl⟩
end
end Go.Proofs.YteoonaanoenjiaaGreatDoor
