/- Several texts in one: IeN, IeO, IeQ, IeR, IeS, IeT, IeU, IeV. -/
import Derived.BigRegionIn
import Derived.Test.YtdchjcadhlkpfaaGreatDoorD13
namespace Go.Proofs.YtdchjcadhlkpfaaGreatDoor
set_option linter.unusedVariables false
set_option linter.unusedSimpArgs false
set_option maxRecDepth 100000
set_option maxHeartbeats 8000000
section
open Go.RowKit Go.Sort Go.Shelf
attribute [local go_sem] Oper.semAt_some
structure KpM (b p q:Nat) (W W':World):Prop where
 size:W.heap.size≤W'.heap.size
 os:W'.os=W.os
 tape:W'.tape=W.tape
 output:W'.output=W.output
 same:∀k o,W.heap[k]? = some o→(o.isCells=true∨o.isWalk=true)→k≠b→k≠p→k≠q→W'.heap[k]? = some o
variable {p q:Nat} {w w':World}
theorem KpM.trans{b:Nat}{A B C:World}(h:KpM b p q A B)(k:KpM b p q B C):KpM b p q A C:=⟨Nat.le_trans h.size k.size,k.os.trans h.os,k.tape.trans h.tape,k.output.trans h.output,fun i o hi ho h0 h1 h2=>k.same i o (h.same i o hi ho h0 h1 h2) ho h0 h1 h2⟩
theorem KpX.toM{b:Nat}{A B:World}(h:KpX p q A B):KpM b p q A B:=⟨h.size,h.os,h.tape,h.output,fun i o hi ho _ h1 h2=>h.same i o hi ho h1 h2⟩
theorem KpM.of_grown{b:Nat}{A B:World}(h:A.grownBy B (some b)):KpM b p q A B:=⟨h.size,h.os,h.tape,h.output,fun i o hi _ h0 _ _=>by rw[h.block i (Array.getElem?_eq_some_iff.1 hi).1 (fun e=>h0 (Option.some.inj e))];exact hi⟩
theorem KpM.of_below{b:Nat}{A B:World}(h:Below A.heap.size A B):KpM b p q A B:=KpM.of_grown (dj h)
theorem KpM.cell{b:Nat}{A B:World}(h:KpM b p q A B){a:Addr}{v:Value}(hc:A.cell? a=some v)(h0:a.block≠b)(h1:a.block≠p)(h2:a.block≠q):B.cell? a=some v:=by
 obtain⟨o,ho,hi⟩:=cells_of_cell hc;have e:=h.same a.block o ho (.inl hi) h0 h1 h2;rw[←hc];exact World.cell?_of_block (e.trans ho.symm)
def kx(a:Option Addr)(b p q:Nat):Prop:=∀y,a=some y→y.block≠b∧y.block≠p∧y.block≠q
theorem Eb{b:Nat}{a:Option Addr}{L:List St}{n:Nat}(h:aZ w a L n)(hg:KpM b p q w w')(hne:kx a b p q):aZ w' a L n:=by
 rcases h with h | ⟨c,o,rfl,hb,hc⟩
 ·exact .inl h
 ·obtain⟨n0,n1,n2⟩:=hne _ rfl;refine .inr ⟨c,o,rfl,Nat.lt_of_lt_of_le hb hg.size,fun i hi=>?_⟩;obtain⟨c0,c1,c2,c3⟩:=hc i hi;exact⟨hg.cell c0 n0 n1 n2,hg.cell c1 n0 n1 n2,hg.cell c2 n0 n1 n2,hg.cell c3 n0 n1 n2⟩
theorem Fw{b:Nat}{a:Option Addr}{L:List D3}{n:Nat}(h:dh w a L n)(hg:KpM b p q w w')(hne:kx a b p q):dh w' a L n:=by
 rcases h with h | ⟨c,o,rfl,hb,hc⟩
 ·exact .inl h
 ·obtain⟨n0,n1,n2⟩:=hne _ rfl;refine .inr ⟨c,o,rfl,Nat.lt_of_lt_of_le hb hg.size,fun i hi=>?_⟩;obtain⟨c0,c1,c2⟩:=hc i hi;exact⟨hg.cell c0 n0 n1 n2,hg.cell c1 n0 n1 n2,hg.cell c2 n0 n1 n2⟩
theorem Fe{b:Nat}{a:Option Addr}{A:List Sg}{n:Nat}(h:fD w a A n)(hg:KpM b p q w w')(hne:kx a b p q):fD w' a A n:=by
 rcases h with h | ⟨c,o,rfl,hb,hc⟩
 ·exact .inl h
 ·obtain⟨n0,n1,n2⟩:=hne _ rfl;refine .inr ⟨c,o,rfl,Nat.lt_of_lt_of_le hb hg.size,fun i hi=>?_⟩;obtain⟨c0,c1,c2,c3,c4,c5,c6⟩:=hc i hi;exact⟨hg.cell c0 n0 n1 n2,hg.cell c1 n0 n1 n2,hg.cell c2 n0 n1 n2,hg.cell c3 n0 n1 n2,hg.cell c4 n0 n1 n2,hg.cell c5 n0 n1 n2,hg.cell c6 n0 n1 n2⟩
theorem bN.isMap{b n:Nat}{L:List St}{ids:List Int}(h:bN w b n L ids):∃es c,w.heap[b]? = some (.map es c):=by
 obtain⟨D,⟨es,c,hh,_⟩,_⟩:=h;exact⟨es,c,hh⟩
def JAb(b:Nat)(J:List (List Int)→World→Prop):Prop:=∀pre W W',J pre W→(∃es c,W.heap[b]? = some (.map es c))→W.grownBy W' (some b)→J pre W'
def Eo(L:List St)(S:List D3)(ar br:Option Addr)(cr dr b l p q:Nat)(J:List (List Int)→World→Prop)(r:Nat):Prop:=∀(ids:List Int) (pre:List (List Int)) (N n:Nat) (w:World),ids.length+r=S.length→N+13 ^ r≤100000000→bN w b N L ids→aZ w ar L L.length→dh w br S S.length→p<w.heap.size→q<w.heap.size→J pre w →
  CallsIn Fence.wide n Tryz.prog 165 #[.agg #[.slice ar L.length cr,.slice br S.length dr,.map (some b)],.int .i64 (ids.length:Int),.func (.yield l) #[] #[]] w fun e W'=>e=.returned (.bool true)∧J (pre ++ eN (dB L S) (L.map (·.1)) r ids) W'∧bN W' b (N+(13 ^ r-1)) L ids∧KpM b p q w W'
theorem Bc(L:List St)(S:List D3)(ar br:Option Addr)(cr dr b l p q:Nat)(J:List (List Int)→World→Prop)(hm:S.length≤6)(hJ:JAb b J)(hY:pN l p q J)(hbp:b≠p)(hbq:b≠q):Eo L S ar br cr dr b l p q J 0:=fun ids pre N n w hl hN13 hN hS hD hp hq hj=>by
 refine(AZ L S ids ar br cr dr b N l p q n (fun pre' W=>J pre' W∧∃es c,W.heap[b]? = some (.map es c)) pre w hm (by omega) hN ⟨hj,hN.isMap⟩ (fun W W' h hB=>?_) (fun m pre' x W h1 hq0 h2 h3=>?_)).mono fun e W' h=>⟨h.1,h.2.1.1,?_,h.2.2.toM⟩
 ·obtain⟨es,c,hh⟩:=h.2;exact⟨hJ _ _ _ h.1 h.2 (dj hB),es,c,by rw[hB.block b (Array.getElem?_eq_some_iff.1 hh).1];exact hh⟩
 ·obtain⟨fn,tmps,assign,body,hy,hR⟩:=hY m pre' x W h1.1 (hq0.elim fun W0 h=>⟨W0,h.1.1,h.2⟩) h2 h3;refine⟨fn,tmps,assign,body,hy,hR.mono fun e W' h=>⟨h.1,⟨h.2.1,?_⟩,h.2.2⟩⟩;obtain⟨es,c,hh⟩:=h1.2;exact⟨es,c,h.2.2.same b _ hh (.inr rfl) hbp hbq⟩
 ·obtain⟨D,⟨es,c,hh,rest⟩,hM⟩:=hN;exact⟨D,(show W'.ownsMap Tryz.prog 3 rL b N D from ⟨es,c,h.2.2.same b _ hh (.inr rfl) hbp hbq,rest⟩).mono (by omega),hM⟩
attribute [local go_sem] Oper.semAt_some
theorem qi.keptM{b p q:Nat}{w w':World}{c:Nat}{v0 v1 v2:Value}(h:qi w c v0 v1 v2)(hg:KpM b p q w w')(n0:c≠b)(n1:c≠p)(n2:c≠q):qi w' c v0 v1 v2:=⟨hg.cell h.1 n0 n1 n2,hg.cell h.2.1 n0 n1 n2,hg.cell h.2.2 n0 n1 n2⟩
theorem Bb(L:List St)(S:List D3)(ar br:Option Addr)(cr dr b l p q r:Nat)(J:List (List Int)→World→Prop)(hk:bc L=true)(hm:S.length≤6)(hJ:JAb b J)(hbp:b≠p)(hbq:b≠q)(hA:kx ar b p q)(hB:kx br b p q)(ih:Eo L S ar br cr dr b l p q J r):Eo L S ar br cr dr b l p q J (r+1):=fun ids pre N n w hl hN13 hN hS hD hp hq hj=>by
 have hn12:L.length≤12:=(cg hk).1;have B0:=an w (.cells #[.slice ar L.length cr,.slice br S.length dr,.map (some b)] 211);have C0:qi (w.alloc (.cells #[.slice ar L.length cr,.slice br S.length dr,.map (some b)] 211)) w.heap.size (.slice ar L.length cr) (.slice br S.length dr) (.map (some b)):=by refine⟨?_,?_,?_⟩<;>simp
 have hbl:b<w.heap.size:=by obtain⟨D,hD,_⟩:=hN;exact hD.lt
 have cA:=yz (fun (k:Nat)=>(callsIn_wide (n:=k)).2 (AE L S ids ids.length ar br L.length cr dr b N _ hm (by omega) (hD.kept B0) (hN.below B0)));have HN:=yz (hN.below B0);have HS:=yz (hS.kept B0);have HD:=yz (hD.kept B0);have HJ0:=yz (hJ _ _ _ hj hN.isMap (dj B0));have HC:=yz C0;have HB0:=yz B0;have HIH:=yz ih;have HJA:=yz hJ;have hne:¬(ids.length:Int)=(S.length:Int):=by omega
 have e16:((ids.length:Int)==(S.length:Int))=false:=by rw[beq_eq_false_iff_ne];exact hne
 have hsz:(w.alloc (.cells #[.slice ar L.length cr,.slice br S.length dr,.map (some b)] 211)).heap.size=w.heap.size+1:=by simp
 clear B0 C0 hN hS hD hj ih hJ;refine callsIn_of_wp Tryz.func165 rfl trivial ?_ rfl;simp only[Tryz.ntmps165,List.size_toArray,List.length_cons,List.length_nil,Nat.reduceAdd,Nat.reduceSub,Array.replicate_succ,Array.replicate_zero,List.push_toArray,List.append_toArray,List.nil_append,List.cons_append];gi_wp2
 refine⟨trivial,fun h=>(by cases h),?_⟩;generalize hW:w.alloc (.cells #[.slice ar L.length cr,.slice br S.length dr,.map (some b)] 211)=W at *;clear hW;refine(yy cA _).mono ?_;rintro e w1 ⟨⟨v,rfl,ho⟩,hx⟩;obtain⟨av,cv,rfl⟩:=gu ho;have HSi:=yz (mC ho);have hcv:=Al ho (by decide);have hcm:=rj ho;have hm9:maxLen≤9223372036854775807:=by decide +kernel
 have hna:=iG L S ids ids.length
 have HAp:Hid (kx av b p q):=yz (fun y e=>by
  rcases ho.2 with ⟨h1,_⟩ | ⟨g,c',cur,e',hb',_⟩
  ·injection h1 with h1;rw[h1]at e;cases e
  ·injection e' with e1;rw[e1]at e;cases e;exact⟨by show g≠b;omega,by show g≠p;omega,by show g≠q;omega⟩)
 have N1:=yz ((yy HN).below hx);have S1:=ap HS hx;have D1:=ap HD hx;have J1:=yz (yy HJA _ _ _ (yy HJ0) (yy HN).isMap (dj hx));have C1:=ap HC hx;have HK0:=yz (KpM.of_below (b:=b) (p:=p) (q:=q) (ak (yy HB0) hx));have hw1:w.heap.size+1≤w1.heap.size:=by have:=hx.size;omega
 have HFE:=yz (CK L S ids);generalize hsa:az L S ids ids.length=SA at *;clear ho hx HN HS HD HJ0 HC HB0 cA hsz hsa;obtain⟨c0,c1,c2⟩:=yy C1;gi_wp2
 clear c0 c1 c2;gi_loopw [27] (fun i wr=>∃k:Nat,k≤L.length∧i=.int .i64 k∧Hid (J (pre ++ iE (dB L S) (L.map (·.1)) r ids k) wr)∧Hid (bN wr b (N+k*13 ^ r) L ids)∧Hid (KpM b p q w1 wr)) (fun i _=>L.length-(intOf i).toNat)
 case atStart=>exact⟨0,Nat.zero_le _,rfl,yz (by rw[zl,List.append_nil];exact yy J1),yz (by rw[Nat.zero_mul];exact yy N1),yz ⟨Nat.le_refl _,rfl,rfl,rfl,fun _ _ h _ _ _ _=>h⟩⟩
 case round=>
  clear J1 N1;obtain⟨k,hkl,rfl,HJr,HNr,HKr⟩:=hrel;have Sr:=yz (Eb (yy S1) (yy HKr) hA);have Dr:=yz (Fw (yy D1) (yy HKr) hB);have Cr:=yz ((yy C1).keptM (yy HKr) (by omega) (by omega) (by omega));have Ar:=yz (Fe (yy HSi) (yy HKr) (yy HAp));have hwr:w.heap.size+1≤wr.heap.size:=Nat.le_trans hw1 (yy HKr).size;obtain⟨c0,c1,c2⟩:=yy Cr;by_cases hkn:k<L.length
  ·obtain⟨⟨s1,s2,s3,s4⟩,hst⟩:∃z,stA L k=z:=⟨_,rfl⟩
   have hsm1:=rP hk hkn;have hat:=uk hk hkn;have HMA:Hid ((L.map (·.1)).getD k 0=s1):=yz (by rw[Dn hkn,hst]);rw[hst]at hsm1 hat;have HAT:=yz hat;have HS1:=yz hsm1.2;have hkn2:(k:Int)<(L.length:Int):=by omega
   rcases yy Sr with h0 | ⟨sb,so,rfl,hsb,hcs⟩
   ·omega
   have hstar:=hcs k hkn;rw[hst]at hstar;obtain⟨d0,d1,d2,d3⟩:=hstar;clear hsm1 hat hst hcs;rcases yy Dr with h0 | ⟨db,do',rfl,hdb,hcd⟩
   ·omega
   obtain⟨⟨v1,v2,v3⟩,hv⟩:∃z,vA S ids.length=z:=⟨_,rfl⟩
   have hdir:=hcd ids.length (by omega);rw[hv]at hdir;have HV:=yz hv;obtain⟨g0,g1,g2⟩:=hdir;dsimp only at d0 d1 d2 d3 g0 g1 g2;clear hcd hv;have hpl:(ids.length:Int)<(S.length:Int):=by omega
   have Z2:=an wr (.cells #[.int .i64 s1,.int .i64 s2,.int .i64 s3,.int .i64 s4] 74);have E2:=yz (fW wr (s1,s2,s3,s4) 74);have HB2:=yz Z2;have y1:=bC c1 Z2;have y2:=bC c2 Z2;have z0:=bC g0 Z2;have z1:=bC g1 Z2;have z2:=bC g2 Z2;clear Z2;gi_wp2
   clear c0 c1 c2 d0 d1 d2 d3 g0 g1 g2;generalize hW2:wr.alloc (.cells #[.int .i64 s1,.int .i64 s2,.int .i64 s3,.int .i64 s4] 74)=W2 at *;clear hW2;obtain⟨e0,e1,e2,e3⟩:=yy E2;simp only[Nat.zero_add]at e0 e1 e2 e3;have y1':=fun o=>bC y1 (an W2 o);have z0':=fun o=>bC z0 (an W2 o);have z1':=fun o=>bC z1 (an W2 o);have z2':=fun o=>bC z2 (an W2 o);have e0':=fun o=>bC e0 (an W2 o);have e1':=fun o=>bC e1 (an W2 o);have e2':=fun o=>bC e2 (an W2 o);have e3':=fun o=>bC e3 (an W2 o);gi_region
   have Z3:=(an W2 (.cells #[.int .i64 v1,.int .i64 v2,.int .i64 v3,.int .i64 s1,.int .i64 s2,.int .i64 s3,.int .i64 s4] 238))
   have Y3:Below W2.heap.size W2 (W2.alloc (.cells #[.int .i64 v1,.int .i64 v2,.int .i64 v3,.int .i64 s1,.int .i64 s2,.int .i64 s3,.int .i64 s4] 238)).drew:=Z3.drew;have P3:Hid (qh (W2.alloc (.cells #[.int .i64 v1,.int .i64 v2,.int .i64 v3,.int .i64 s1,.int .i64 s2,.int .i64 s3,.int .i64 s4] 238)).drew W2.heap.size 0 ((v1,v2,v3),(s1,s2,s3,s4))):=yz (gw W2 ((v1,v2,v3),(s1,s2,s3,s4)) 238);have E3:=yz ((yy E2).kept (World.block_lt_of_cell? W2 _ e0) Y3);have HB3:=ax HB2 Y3;generalize hW3:(W2.alloc (.cells #[.int .i64 v1,.int .i64 v2,.int .i64 v3,.int .i64 s1,.int .i64 s2,.int .i64 s3,.int .i64 s4] 238)).drew=W3 at *;clear hW3 Z3 Y3 y1 y2 z0 z1 z2 e0 e1 e2 e3 y1' z0' z1' z2' e0' e1' e2' e3' E2 HB2;have J3:=yz (yy HJA _ _ _ (yy HJr) (yy HNr).isMap (dj (yy HB3)));have N3:=yz ((yy HNr).below (yy HB3));have K3:=yz ((yy HKr).trans (KpM.of_below (b:=b) (p:=p) (q:=q) (yy HB3)));have A3:=ap Ar (yy HB3);have C3:=ap Cr (yy HB3);have hw3:w.heap.size+1≤W3.heap.size:=Nat.le_trans hwr (yy HB3).size;generalize W2.heap.size=nb at *;obtain⟨n0,n1,n2,n3,n4,n5,n6⟩:=yy P3;simp only[Nat.zero_add]at n0 n1 n2 n3 n4 n5 n6;have cF:=yz (fun (j:Nat)=>(callsIn_wide (n:=j)).2 (kH SA SA.length ((v1,v2,v3),(s1,s2,s3,s4)) av cv W3 (by omega) hcv (by omega) (yy A3)));have HFV:Hid (eH SA ((v1,v2,v3),(s1,s2,s3,s4)) SA.length=dB L S ids s1):=yz (by rw[yy HFE s1,yy HV,yy HAT]);rw[yy HFV]at cF;unfold sgV at cF;dsimp only at cF;gi_wp2
   refine⟨trivial,fun h=>(by cases h),?_⟩;refine(yy cF _).mono ?_;rintro e W4 ⟨rfl,hx⟩;have J4:=yz (yy HJA _ _ _ (yy J3) (yy N3).isMap (dj hx));have N4:=yz ((yy N3).below hx);have K4:=yz ((yy K3).trans (KpM.of_below (b:=b) (p:=p) (q:=q) hx));have C4:=ap C3 hx;have E4:=yz ((yy E3).kept (World.block_lt_of_cell? W3 _ (yy E3).1) hx);have hw4:w.heap.size+1≤W4.heap.size:=Nat.le_trans hw3 hx.size;clear hx n0 n1 n2 n3 n4 n5 n6 J3 N3 K3 C3 E3 A3 cF P3 HJr HNr HKr Cr Ar Sr Dr HB3;cases hfit:dB L S ids s1
   ·have HR:Hid (iE (dB L S) (L.map (·.1)) r ids (k+1)=iE (dB L S) (L.map (·.1)) r ids k):=yz (by rw[rl _ _ _ _ (by rw[List.length_map];exact hkn),yy HMA,hfit];simp);have J5:Hid (J (pre ++ iE (dB L S) (L.map (·.1)) r ids (k+1)) W4):=yz (by rw[yy HR];exact yy J4);have N5:Hid (bN W4 b (N+(k+1)*13 ^ r) L ids):=yz (by obtain⟨D,h1,h2⟩:=yy N4;exact⟨D,h1.mono (Nat.add_le_add_left (Nat.mul_le_mul_right _ (Nat.le_succ k)) _),h2⟩);gi_wp2
    go_roundw
    case rel=>first | exact⟨k+1,by omega,by go_num,J5,N5,K4⟩ | trace_state
    case measure=>simp[intOf];omega
   ·have HR:Hid (iE (dB L S) (L.map (·.1)) r ids (k+1)=iE (dB L S) (L.map (·.1)) r ids k ++ eN (dB L S) (L.map (·.1)) r (ids ++ [s1])):=yz (by rw[rl _ _ _ _ (by rw[List.length_map];exact hkn),yy HMA,hfit];rfl);obtain⟨c0,c1,c2⟩:=yy C4;obtain⟨e0,e1,e2,e3⟩:=yy E4;simp only[Nat.zero_add]at e0 e1 e2 e3;obtain⟨D,hown,hM⟩:=yy N4
    have hNb:N+k*13 ^ r<maxLen:=by
     have h1:k*13 ^ r≤12*13 ^ r:=Nat.mul_le_mul_right _ (by omega);have h2:100000000≤maxLen:=by decide +kernel
     rw[Nat.pow_succ]at hN13;have h3:0<13 ^ r:=Nat.pow_pos (by decide);generalize 13 ^ r=c at *;generalize k*c=kc at *;omega
    gi_wp2_with (gi_at_mapUpdate;refine wpListIn_mapUpdate_own _ rfl _ _ _ 209 rfl 3 74 (Maps.int_keyed Tryz.underlying3) Tryz.underlying209 rL b (N+k*13 ^ r) D rfl hown hNb _ _ (.int .i64 (ids.length:Int)) rfl rfl (EN ids.length (by omega)) (pu (s1,s2,s3,s4)) [] (rM (s1,s2,s3,s4)) ?_;intro W5 hown5 hg5;have HU5:=yz hown5;have HG5:=yz hg5;clear hown5 hg5;have C5:=yz ((yy C4).keptM (KpM.of_grown (b:=b) (p:=p) (q:=q) (yy HG5)) (by omega) (by omega) (by omega));obtain⟨x0,x1,x2⟩:=yy C5)
    have J5:=yz (yy HJA _ _ _ (yy J4) (yy N4).isMap (yy HG5));have K5:=yz ((yy K4).trans (KpM.of_grown (b:=b) (p:=p) (q:=q) (yy HG5)))
    have N5:Hid (bN W5 b (N+k*13 ^ r+1) L (ids ++ [s1])):=yz ⟨_,yy HU5,by
     have h1:=hM.put (a:=s1) hown.isMap (yy HS1);rw[yy HAT]at h1
     exact h1⟩
    have S5:=yz (Eb (yy S1) (yy K5) hA);have D5:=yz (Fw (yy D1) (yy K5) hB);have hw5:w.heap.size+1≤W5.heap.size:=Nat.le_trans hw4 (yy HG5).size;have HLN:Hid (((ids ++ [s1]).length:Int)=(ids.length:Int)+1):=yz (by simp)
    have cI:=yz (fun (j:Nat)=>yy HIH (ids ++ [s1]) (pre ++ iE (dB L S) (L.map (·.1)) r ids k) (N+k*13 ^ r+1) j W5 (by rw[List.length_append,List.length_singleton];omega) (by
     have h1:k*13 ^ r≤11*13 ^ r:=Nat.mul_le_mul_right _ (by omega);rw[Nat.pow_succ]at hN13;have h3:0<13 ^ r:=Nat.pow_pos (by decide);generalize 13 ^ r=c at *;generalize k*c=kc at *
     omega) (yy N5) (yy S5) (yy D5) (by omega) (by omega) (yy J5))
    rw[yy HLN]at cI;clear c0 c1 c2 e0 e1 e2 e3 J4 N4 K4 C4 E4 HU5 hown hM HG5 J5 N5 S5 D5;refine⟨trivial,fun h=>(by cases h),?_⟩;refine(yy cI _).mono ?_;rintro e W6 ⟨rfl,hJ6,hN6,hK6⟩;have J6:=yz hJ6;have K6:=yz ((yy K5).trans hK6);have C6:=yz ((yy C5).keptM hK6 (by omega) (by omega) (by omega));have N6:=yz hN6;have hw6:w.heap.size+1≤W6.heap.size:=Nat.le_trans hw5 hK6.size;clear x0 x1 x2 hJ6 hN6 hK6 K5 C5 cI;obtain⟨x0,x1,x2⟩:=yy C6;obtain⟨D6,hown6,hM6⟩:=yy N6;gi_wp2_with (gi_at_delete;refine wpListIn_delete_own _ rfl _ _ 209 3 rfl 74 (Maps.int_keyed Tryz.underlying3) Tryz.underlying209 rL b _ D6 rfl hown6 _ (.int .i64 (ids.length:Int)) rfl (EN ids.length (by omega)) ?_;intro W7 hown7 ht7;have HU7:=yz hown7;have HG7:=yz ht7.grown;clear hown7 ht7)
    have J7:Hid (J (pre ++ iE (dB L S) (L.map (·.1)) r ids (k+1)) W7):=yz (by rw[yy HR,←List.append_assoc];exact yy HJA _ _ _ (yy J6) (yy N6).isMap (yy HG7));have K7:=yz ((yy K6).trans (KpM.of_grown (b:=b) (p:=p) (q:=q) (yy HG7)))
    have N7:Hid (bN W7 b (N+(k+1)*13 ^ r) L ids):=yz ⟨_,(yy HU7).mono (by
     have h3:0<13 ^ r:=Nat.pow_pos (by decide);rw[Nat.succ_mul];generalize 13 ^ r=c at *;generalize k*c=kc at *
     omega),hM6.del⟩
    clear x0 x1 x2 J6 K6 C6 N6 hown6 hM6 HU7 HG7;gi_wp2
    go_roundw
    case rel=>first | exact⟨k+1,by omega,by go_num,J7,N7,K7⟩ | exact⟨k+1,by omega,by go_num,J7,N7⟩ | trace_state
    case measure=>simp[intOf];omega
  ·obtain rfl:k=L.length:=by omega
   have HLN:Hid (((ids ++ [(0:Int)]).length:Int)=(ids.length:Int)+1):=yz (by simp);have N5:Hid (bN wr b (N+L.length*13 ^ r) L (ids ++ [0])):=yz (by obtain⟨D,h1,h2⟩:=yy HNr;exact⟨D,h1,h2.snoc0⟩)
   have cI:=yz (fun (j:Nat)=>yy HIH (ids ++ [0]) (pre ++ iE (dB L S) (L.map (·.1)) r ids L.length) (N+L.length*13 ^ r) j wr (by rw[List.length_append,List.length_singleton];omega) (by
    have h1:L.length*13 ^ r≤12*13 ^ r:=Nat.mul_le_mul_right _ hn12;rw[Nat.pow_succ]at hN13;generalize 13 ^ r=c at *;generalize L.length*c=kc at *
    omega) (yy N5) (yy Sr) (yy Dr) (by omega) (by omega) (yy HJr))
   rw[yy HLN]at cI;gi_wp2
   refine⟨trivial,fun h=>(by cases h),?_⟩;refine(yy cI _).mono ?_;rintro e W6 ⟨rfl,hJ6,hN6,hK6⟩;have J6:=yz hJ6;have N6:=yz hN6;have K6:=yz (((yy HK0).trans (yy HKr)).trans hK6);clear hJ6 hN6 hK6 cI N5 c0 c1 c2;gi_wp2
   go_ret;refine⟨rfl,?_,?_,yy K6⟩
   ·rw[AF,←List.append_assoc,List.length_map];exact yy J6
   ·obtain⟨D,h1,h2⟩:=yy N6;refine⟨D,h1.mono ?_,fun i hi=>?_⟩
    ·have h3:L.length*13 ^ r≤12*13 ^ r:=Nat.mul_le_mul_right _ hn12;have h4:0<13 ^ r:=Nat.pow_pos (by decide);rw[Nat.pow_succ];generalize 13 ^ r=c at *;generalize L.length*c=kc at *;omega
    ·have h5:=h2 i hi;unfold eQ at h5 ⊢;rw[qJ]at h5;exact h5
theorem wJ(L:List St)(S:List D3)(ar br:Option Addr)(cr dr b l p q:Nat)(J:List (List Int)→World→Prop)(hk:bc L=true)(hm:S.length≤6)(hJ:JAb b J)(hY:pN l p q J)(hbp:b≠p)(hbq:b≠q)(hA:kx ar b p q)(hB:kx br b p q):∀r,Eo L S ar br cr dr b l p q J r
 | 0=>Bc L S ar br cr dr b l p q J hm hJ hY hbp hbq
 | r+1=>Bb L S ar br cr dr b l p q r J hk hm hJ hbp hbq hA hB (wJ L S ar br cr dr b l p q J hk hm hJ hY hbp hbq hA hB r)
attribute [local go_sem] Oper.semAt_some
theorem uU(w:World)(L:List St):bN (w.alloc (.map #[] 0)) w.heap.size 0 L []:=⟨.map [],World.ownsMap_made w _ _ _,fun i hi=>⟨by simp[Maps.has],by unfold eQ;simp;rfl⟩⟩
theorem Ev(L:List St)(S:List D3)(ar br:Option Addr)(cr dr l p q s1 s2 n:Nat)(J:List (List Int)→World→Prop)(W:World)(hk:bc L=true)(hm:S.length≤6)(h1:W.cell? ⟨s1,0,none⟩=some (.slice ar L.length cr))(h2:W.cell? ⟨s2,0,none⟩=some (.slice br S.length dr))(hS:aZ W ar L L.length)(hD:dh W br S S.length)(hA:∀y,ar=some y→y.block<W.heap.size∧y.block≠p∧y.block≠q)(hB:∀y,br=some y→y.block<W.heap.size∧y.block≠p∧y.block≠q)(hp:p<W.heap.size)(hq:q<W.heap.size)
  (hJ:∀b,W.heap.size≤b→JAb b J) (hJn:∀pre W1 W2,J pre W1→Below W1.heap.size W1 W2→J pre W2) (hY:pN l p q J) (h0:J [] W) :
  CallsIn Fence.wide n Tryz.prog 164 #[.func (.yield l) #[] #[],.pointer (some ⟨s1,0,none⟩),.pointer (some ⟨s2,0,none⟩)] W fun e W'=>(∃v,e=.returned v)∧J (eN (dB L S) (L.map (·.1)) S.length []) W':=by
 have hmm:=@run_makeMap Tryz.prog;refine callsIn_of_wp Tryz.func164 rfl trivial ?_ rfl;simp only[Tryz.ntmps164,List.size_toArray,List.length_cons,List.length_nil,Nat.reduceAdd,Nat.reduceSub,Array.replicate_succ,Array.replicate_zero,List.push_toArray,List.append_toArray,List.nil_append,List.cons_append];gi_wp2
 refine⟨trivial,fun h=>(by cases h),?_⟩;have B1:=aX W (.map #[] 0) (.cells #[.slice ar L.length cr,.slice br S.length dr,.map (some W.heap.size)] 211);have N1:=(uU W L).below (an _ (.cells #[.slice ar L.length cr,.slice br S.length dr,.map (some W.heap.size)] 211));have hz:((W.alloc (.map #[] 0)).alloc (.cells #[.slice ar L.length cr,.slice br S.length dr,.map (some W.heap.size)] 211)).heap.size=W.heap.size+2:=by simp
 refine(wJ L S ar br cr dr W.heap.size l p q J hk hm (hJ _ (Nat.le_refl _)) hY (by omega) (by omega) (fun y e=>⟨by have:=(hA y e).1;omega,(hA y e).2⟩) (fun y e=>⟨by have:=(hB y e).1;omega,(hB y e).2⟩) S.length [] [] 0 _ _ (by simp) (by have:13 ^ S.length≤13 ^ 6:=Nat.pow_le_pow_right (by decide) hm;omega) N1 (hS.kept B1) (hD.kept B1) (by omega) (by omega) (hJn _ _ _ h0 B1)).mono ?_;rintro e W2 ⟨rfl,hJ2,_,_⟩;have HJ2:=yz hJ2;clear hJ2 N1 B1;gi_wp2
 go_end0
 exact⟨⟨_,rfl⟩,by simpa using yy HJ2⟩
attribute [local go_sem] Oper.semAt_some
structure vT (W:World) (p q:Nat) (G:List Int×Nat):Prop where
 most:∃v,W.heap[p]? = some (.cells #[v] 81 (0,0))∧((G.1=[]∧v=.slice none 0 0)∨∃g,v=.slice (some ⟨g,0,none⟩) G.1.length G.1.length∧p≤g∧g≠p∧g≠q∧dz W 2 g (G.1.length*1) (rg G.1))
 alike:W.heap[q]? = some (.cells #[.int .i64 (wrap64 (G.2:Int))] 2 (0,0))
 len:G.1.length≤6
structure GrJ (p q l d:Nat) (rec:Loop) (w0:World) (pre:List (List Int)) (W:World):Prop where
 box:vT W p q (pre.foldl dE ([],0))
 rc:W.heap[l]? = some (.loop rec)
 df:W.heap[d]? = some (.deferred (some []))
 bel:Below w0.heap.size w0 W
variable {l p q:Nat} {W W' w0:World}
theorem dk{k:Nat}{o:Obj}{row:Option Nat}(h:W.heap[k]? = some o)(hg:W.grownBy W' row)(hne:some k≠row):W'.heap[k]? = some o:=(hg.block k (Array.getElem?_eq_some_iff.1 h).1 hne).trans h
theorem vT.grown{G:List Int×Nat}{row:Option Nat}(h:vT W p q G)(hg:W.grownBy W' row)(hne:∀k cs t f,W.heap[k]? = some (.cells cs t f)→some k≠row):vT W' p q G:=by
 obtain⟨⟨v,h1,h2⟩,h3,h4⟩:=h;refine⟨⟨v,dk h1 hg (hne _ _ _ _ h1),?_⟩,dk h3 hg (hne _ _ _ _ h3),h4⟩;rcases h2 with h2 | ⟨g,e,n0,n1,n2,cur,hc,hr⟩
 ·exact .inl h2
 ·exact .inr ⟨g,e,n0,n1,n2,cur,dk hc hg (hne _ _ _ _ hc),hr⟩
theorem GrJ.abides{d:Nat}{rec:Loop}{b:Nat}(hb:w0.heap.size≤b):JAb b (GrJ p q l d rec w0):=fun pre W W' h ⟨es,c,hm⟩ hg=>
 ⟨h.box.grown hg (fun k cs t f hk e=>by have:=Option.some.inj e;subst this;rw[hm]at hk;cases hk),dk h.rc hg (fun e=>by have e2:=Option.some.inj e;have h2:=h.rc;rw[e2,hm]at h2;cases h2),dk h.df hg (fun e=>by have e2:=Option.some.inj e;have h2:=h.df;rw[e2,hm]at h2;cases h2),h.bel.trans ⟨hg.os,hg.tape,hg.output,hg.size,fun k hk=>hg.block k (Nat.lt_of_lt_of_le hk h.bel.size) (fun e=>by have:=Option.some.inj e;omega)⟩⟩
theorem GrJ.below{d:Nat}{rec:Loop}(pre:List (List Int))(W W':World)(h:GrJ p q l d rec w0 pre W)(hB:Below W.heap.size W W'):GrJ p q l d rec w0 pre W':=by
 have hg:W.grownBy W' none:=⟨hB.os,hB.tape,hB.output,hB.size,fun k hk _=>hB.block k hk⟩
 exact⟨h.box.grown hg (fun k cs t f hk e=>by cases e),dk h.rc hg (by simp),dk h.df hg (by simp),ak h.bel hB⟩
theorem zm{P:Program}{n:Nat}{g:Operand}{ps:Array Tmp}{assign body:Code}{Q:Exit→Act→World→Prop}{a:Act}{w:World}{gf:Nat}{lb:Array Value}(hg:a.eval g=.func (.func gf) #[] lb)(eg:∀args w,(callFunc gf args).run P w=.ok (.enter gf args) w)
  (hc:∀(rec:Loop),rec.state=.ready→rec.pending=none→rec.tmps=a.tmps→rec.params=ps→rec.assign=assign→rec.body=body→CallsIn Fence.wide (n-1) P gf (#[.func (.yield (w.heap.size+1)) #[] #[]] ++ lb) ((w.alloc (.deferred (some []))).alloc (.loop rec)) fun e W'=>(∃v,e=.returned v)∧W'.heap[w.heap.size+1]? = some (.loop rec)∧Q .normal { a with defers:={ target:=.collected w.heap.size,args:=#[] } :: a.defers } (W'.putObj (w.heap.size+1) (.loop { rec with state:=.exhausted }))) :
  (Code.rangeFunc g ps assign body).wpIn Fence.wide n P Q a w:=by
 refine wpIn_rangeFunc fun fn _=>?_;refine⟨w.heap.size+1,_,_,{ target:=.fn (.func gf) lb,args:=#[.func (.yield (w.heap.size+1)) #[] #[]] },?wa,gf,#[.func (.yield (w.heap.size+1)) #[] #[]] ++ lb,?wb,run_enterLoop_outer _ _ _ _ _,?res,fun _ _=>trivial,?inv,fun h=>(by cases h),?call⟩
 case res=>
  simp only[resolve,hg];simp[go_sem];rfl
 case inv=>
  simp[invoke,go_sem,eg];rfl
 case call=>
  refine(hc _ rfl rfl rfl rfl rfl rfl).mono ?_;rintro e W' ⟨⟨v,rfl⟩,hl,hq⟩;exact⟨none,_,run_endLoop hl (by simp),hq⟩
attribute [local go_sem] Oper.semAt_some
theorem En(a:Int):wrap64 (wrap64 a+1)=wrap64 (a+1):=by unfold wrap64;omega
theorem Ce(a:Nat):wrap64 (wrap64 (a:Int)+1)=wrap64 ((a+1:Nat):Int):=by rw[En];rfl
variable {l p q x:Nat} {W:World}
theorem kC{v:Value}{t:TypeId}(h:W.heap[p]? = some (.cells #[v] t (0,0))):W.cell? ⟨p,0,none⟩=some v∧W.frozen? ⟨p,0,none⟩=false:=by
 constructor<;>simp[World.cell?,World.frozen?,h]
theorem Ac{o o':Obj}(h:W.heap[l]? = some o)(h1:o.isCells=false)(h2:o.isWalk=false):KpX p q W (W.putObj l o'):=
 ⟨by simp,rfl,rfl,rfl,fun k ob hk ho _ _=>by
  have hne:k≠l:=fun e=>by subst e;rw[h]at hk;cases hk;rcases ho with ho | ho<;>simp_all
  exact(World.putObj_heap_other hne).trans hk⟩
theorem uI(W:World)(v:Value)(hx:x=p∨x=q):KpX p q W (W.setCell ⟨x,0,none⟩ v):=
 ⟨by simp,rfl,rfl,rfl,fun k o hk _ h1 h2=>by rw[Below.heap_setCell W ⟨x,0,none⟩ v k (by show k≠x;rcases hx with rfl | rfl<;>assumption)];exact hk⟩
theorem um{u:Value}{t:TypeId}(h:W.heap[x]? = some (.cells #[u] t (0,0)))(v:Value):(W.setCell ⟨x,0,none⟩ v).heap[x]? = some (.cells #[v] t (0,0)):=by
 have:=heap_setCell_same W x 0 #[u] t v h;simpa using this
theorem gM{k:Nat}{o:Obj}(h:W.heap[k]? = some o)(hne:k≠x)(v:Value):(W.setCell ⟨x,0,none⟩ v).heap[k]? = some o:=by rw[Below.heap_setCell W ⟨x,0,none⟩ v k hne];exact h
theorem vl{g m:Nat}{t:TypeId}{f:Nat→Value}(h:dz W t g m f)(hne:g≠x)(v:Value):dz (W.setCell ⟨x,0,none⟩ v) t g m f:=by
 obtain⟨cur,hc,hr⟩:=h;exact⟨cur,gM hc hne v,hr⟩
theorem oP{d:Nat}{rec rb:Loop}{w V V':World}{pre:List (List Int)}{xi:List Int}(hJ:GrJ p q l d rec w pre W)(hV:W.putObj l (.loop rb)=V)(hrb:({ rb with state:=.ready,pending:=none }:Loop)=rec)(hlw:w.heap.size≤l)(hld:l≠d)
  (hb:vT V' p q (dE (pre.foldl dE ([],0)) xi)) (hl:V'.heap[l]? = some (.loop rb)) (hd:V'.heap[d]? = some (.deferred (some []))) (hB:Below w.heap.size V V') (hk:KpX p q V V') :
  ∃v w',(Instr.endRound l none).run Tryz.prog V'=.ok v w'∧(Ending.returned v=.returned (.bool true)∧GrJ p q l d rec w (pre ++ [xi]) w'∧KpX p q W w'):=by
 have he:=run_endRound (P:=Tryz.prog) none hl;have hrb':({ rb with state:=if (none:Option Code).isNone then .ready else .done,pending:=none }:Loop)=rec:=hrb;rw[hrb']at he;have hg:=grownBy_putObj' V' l (.loop rec);have hnc:∀k cs t f,V'.heap[k]? = some (.cells cs t f)→some k≠some l:=fun k cs t f hk e=>by have:=Option.some.inj e;rw[this,hl]at hk;cases hk
 refine⟨_,_,he,rfl,⟨?_,World.putObj_heap_same (Array.getElem?_eq_some_iff.1 hl).1,dk hd hg (fun e=>hld (Option.some.inj e).symm),?_⟩,?_⟩
 ·rw[List.foldl_append];exact hb.grown hg hnc
 ·have b1:Below w.heap.size W V:=hV ▸ ((Below.refl w.heap.size W).grown (grownBy_putObj' W l (.loop rb)) hJ.bel.size (fun k e=>by cases e;exact hlw));exact((hJ.bel.trans b1).trans hB).trans ((Below.refl w.heap.size V').grown hg (Nat.le_trans hJ.bel.size (Nat.le_trans b1.size hB.size)) (fun k e=>by cases e;exact hlw))
 ·have k1:KpX p q W V:=hV ▸ Ac hJ.rc rfl rfl;exact(k1.trans hk).trans (Ac hl rfl rfl)
theorem uy(L:List St)(S:List D3)(ar br:Option Addr)(cr dr s1 s2:Nat)(w:World)(hk:bc L=true)(hm:S.length≤6)(h1:w.cell? ⟨s1,0,none⟩=some (.slice ar L.length cr))(h2:w.cell? ⟨s2,0,none⟩=some (.slice br S.length dr))(hS:aZ w ar L L.length)(hD:dh w br S S.length)(hA:∀y,ar=some y→y.block<w.heap.size)(hB:∀y,br=some y→y.block<w.heap.size)(n:Nat):
  CallsIn Fence.wide n Tryz.prog 142 #[.func (.func 164) #[] #[.pointer (some ⟨s1,0,none⟩),.pointer (some ⟨s2,0,none⟩)]] w fun e w'=>(∃v,e=.returned (.tuple #[v,.int .i64 (wrap64 ((dL L S).2:Int))])∧(((dL L S).1=[]∧v=.slice none 0 0)∨∃g,v=.slice (some ⟨g,0,none⟩) (dL L S).1.length (dL L S).1.length∧w.heap.size≤g∧dz w' 2 g ((dL L S).1.length*1) (rg (dL L S).1)))∧Below w.heap.size w w'∧(dL L S).1.length≤6:=by
 refine callsIn_of_wp_marks Tryz.func142 rfl trivial ?_ rfl;simp only[Tryz.ntmps142,List.size_toArray,List.length_cons,List.length_nil,Nat.reduceAdd,Nat.reduceSub,Array.replicate_succ,Array.replicate_zero,List.push_toArray,List.append_toArray,List.nil_append,List.cons_append];gi_wp2
 have B0:=aX w (.cells #[.slice none 0 0] 81) (.cells #[.int .i64 0] 2);have hz0:((w.alloc (.cells #[.slice none 0 0] 81)).alloc (.cells #[.int .i64 0] 2)).heap.size=w.heap.size+2:=by simp
 have hp0:((w.alloc (.cells #[.slice none 0 0] 81)).alloc (.cells #[.int .i64 0] 2)).heap[w.heap.size]? = some (.cells #[.slice none 0 0] 81 (0,0)):=(Below.heap_alloc _ _ _ (by simp)).trans (World.alloc_heap_new w _)
 have hq0:((w.alloc (.cells #[.slice none 0 0] 81)).alloc (.cells #[.int .i64 0] 2)).heap[w.heap.size+1]? = some (.cells #[.int .i64 0] 2 (0,0)):=by
  have:=World.alloc_heap_new (w.alloc (.cells #[.slice none 0 0] 81)) (.cells #[.int .i64 0] 2);rw[World.size_alloc]at this;exact this
 generalize hW0:(w.alloc (.cells #[.slice none 0 0] 81)).alloc (.cells #[.int .i64 0] 2)=W0 at *;clear hW0;refine zm rfl (enters_of Tryz.func164 (by kernel_rfl) rfl) ?_;intro rec hst hpe htm hpa has hbo;have B1:Below W0.heap.size W0 ((W0.alloc (.deferred (some []))).alloc (.loop rec)):=aX W0 _ _;have hz1:((W0.alloc (.deferred (some []))).alloc (.loop rec)).heap.size=w.heap.size+4:=by simp;omega
 have hl1:((W0.alloc (.deferred (some []))).alloc (.loop rec)).heap[W0.heap.size+1]? = some (.loop rec):=by
  have:=World.alloc_heap_new (W0.alloc (.deferred (some []))) (.loop rec);rw[World.size_alloc]at this;exact this
 have hd1:((W0.alloc (.deferred (some []))).alloc (.loop rec)).heap[W0.heap.size]? = some (.deferred (some [])):=(Below.heap_alloc _ _ _ (by simp)).trans (World.alloc_heap_new W0 _);generalize hW1:(W0.alloc (.deferred (some []))).alloc (.loop rec)=W1 at *;clear hW1;rw[hz0]at hl1 hd1 ⊢;have Bw:=ak B0 B1;have Jst:GrJ w.heap.size (w.heap.size+1) (w.heap.size+2+1) (w.heap.size+2) rec w [] W1:=⟨⟨⟨_,by rw[B1.block _ (by omega)];exact hp0,.inl ⟨rfl,rfl⟩⟩,by rw[B1.block _ (by omega),hq0];exact congrArg (fun z=>some (Obj.cells #[Value.int .i64 z] 2 (0,0))) (show (0:Int)=wrap64 0 from (au (by omega) (by omega)).symm),by simp⟩,hl1,hd1,Bw⟩
 refine(Ev L S ar br cr dr (w.heap.size+2+1) w.heap.size (w.heap.size+1) s1 s2 (n-1) (GrJ w.heap.size (w.heap.size+1) (w.heap.size+2+1) (w.heap.size+2) rec w) W1 hk hm (bC h1 Bw) (bC h2 Bw) (hS.kept Bw) (hD.kept Bw) (fun y e=>by have:=hA y e;omega) (fun y e=>by have:=hB y e;omega) (by omega) (by omega) (fun b hb=>GrJ.abides (by omega)) GrJ.below ?round Jst).mono ?behind
 case round=>
  clear Jst B1 Bw hl1 hd1 hp0 hq0 B0;intro m pre x W hJ hW0 hx hlen;obtain⟨xi,xg⟩:=x;unfold FY at hx;unfold FZ;dsimp only at hx hlen hW0 ⊢
  have hfar:w.heap.size≤xg:=by
   obtain⟨W0',hJ0,h0⟩:=hW0;have:=(Array.getElem?_eq_some_iff.1 hJ0.rc).1;omega
  clear hW0;refine⟨rec.fn,_,rec.assign,rec.body,run_yield hJ.rc (by rw[hpa];rfl),roundIn_of_wpIn trivial ?_⟩;rw[has,hbo,htm,hpa];have hW2:=hJ.rc;have hbeg:=run_beginRound (P:=Tryz.prog) hJ.rc hst;have hG2:=grownBy_putObj' W (w.heap.size+2+1) (.loop { rec with state:=.busy });have hnc:∀k cs t f,W.heap[k]? = some (.cells cs t f)→some k≠some (w.heap.size+2+1):=fun k cs t f hk e=>by have:=Option.some.inj e;rw[this,hJ.rc]at hk;cases hk
  have hBx:=hJ.box.grown hG2 hnc;have hX2:dz (W.putObj (w.heap.size+2+1) (.loop { rec with state:=.busy })) 2 xg (xi.length*1) (rg xi):=by obtain⟨cur,hc,hr⟩:=hx;exact⟨cur,dk hc hG2 (hnc _ _ _ _ hc),hr⟩
  have hl2:(W.putObj (w.heap.size+2+1) (.loop { rec with state:=.busy })).heap[w.heap.size+2+1]? = some (.loop { rec with state:=.busy }):=World.putObj_heap_same (Array.getElem?_eq_some_iff.1 hJ.rc).1;have HBx:=yz hBx;have HX:=yz hX2;have HL2:=yz hl2;have HJ:=yz hJ;have HG2:=yz hG2;have HRB:Hid (({ ({ rec with state:=.busy }:Loop) with state:=.ready,pending:=none }:Loop)=rec):=yz (by cases rec;simp_all);clear hBx hX2 hl2 hJ hx hnc hG2 hW2 has hbo htm hpa hpe hst;generalize hrb:({ rec with state:=.busy }:Loop)=rb at *;clear hrb;have cN:=yz (fun (j:Nat)=>CallsIn.inRound (w.heap.size+2+1) ((callsIn_wide (n:=j)).2 (gl xi (some ⟨xg,0,none⟩) xi.length _ (by omega) (nw (yy HX)))));gi_wp2
  refine⟨trivial,fun h=>(by cases h),?_⟩;refine(yy cN _).mono ?_;rintro e V1 ⟨rfl,hV1⟩;generalize hV:W.putObj (w.heap.size+2+1) (.loop rb)=V at *;subst hV1;obtain⟨G,hG⟩:∃G,pre.foldl dE ([],0)=G:=⟨_,rfl⟩
  rw[hG]at HBx;have HG:=yz hG;clear hG hbeg cN;obtain⟨Gm,Ga⟩:=G;obtain⟨⟨vm,hvm,hmost⟩,halike,hlenG⟩:=yy HBx;dsimp only at hmost halike hlenG;have HD2:Hid (V1.heap[w.heap.size+2]? = some (.deferred (some []))):=yz (by rw[←hV];exact dk (yy HJ).df (grownBy_putObj' W _ _) (fun e=>by have:=Option.some.inj e;omega));have hV1s:w.heap.size+4≤V1.heap.size:=by have:=(Array.getElem?_eq_some_iff.1 (yy HL2)).1;omega
  obtain⟨am,cm,hvf,hnm⟩:∃am cm,vm=.slice am Gm.length cm∧hU V1 am Gm Gm.length:=by
   rcases hmost with ⟨e1,e2⟩ | ⟨g,e,_,_,_,hr⟩
   ·exact⟨none,0,by rw[e1,e2];rfl,.inl (by rw[e1];rfl)⟩
   ·exact⟨_,_,e,nw hr⟩
  subst hvf;have HM:=yz hmost;have HVM:=yz hvm;have HAL:=yz halike;obtain⟨m0,m1⟩:=kC hvm;obtain⟨a0,a1⟩:=kC halike;have cM:=yz (fun (j:Nat)=>CallsIn.inRound (w.heap.size+2+1) ((callsIn_wide (n:=j)).2 (gl Gm am cm V1 (by omega) hnm)));have HSame:Hid (dE (Gm,Ga) xi=(Gm,Ga)→∃v w',(Instr.endRound (w.heap.size+2+1) none).run Tryz.prog V1=.ok v w'∧(Ending.returned v=.returned (.bool true)∧GrJ w.heap.size (w.heap.size+1) (w.heap.size+2+1) (w.heap.size+2) rec w (pre ++ [xi]) w'∧KpX w.heap.size (w.heap.size+1) W w')):=yz (fun e=>oP (yy HJ) hV (yy HRB) (by omega) (by omega) (by rw[yy HG,e];exact yy HBx) (yy HL2) (yy HD2) (Below.refl _ _) ⟨Nat.le_refl _,rfl,rfl,rfl,fun _ _ h _ _ _=>h⟩);clear hmost hvm halike hnm;by_cases c3:aY xi<3
  ·have c3':(aY xi:Int)<3:=by omega
   gi_wp2
   refine⟨trivial,?_⟩;gi_wp2
   exact yy HSame (by unfold dE;rw[if_pos (.inl c3)])
  have c3':¬(aY xi:Int)<3:=by omega
  gi_wp2
  refine⟨trivial,fun h=>(by cases h),?_⟩;refine(yy cM _).mono ?_;rintro e V2 ⟨rfl,hV2⟩;rw[hV2];clear hV2 V2;by_cases c4:aY xi<aY Gm
  ·have c4':(aY xi:Int)<(aY Gm:Int):=by omega
   gi_wp2
   exact yy HSame (by unfold dE;rw[if_pos (.inr c4)])
  have c4':¬(aY xi:Int)<(aY Gm:Int):=by omega
  gi_wp2
  refine⟨trivial,fun h=>(by cases h),?_⟩;refine(yy cM _).mono ?_;rintro e V2 ⟨rfl,hV2⟩;rw[hV2];clear hV2 V2;have hxl:3≤xi.length:=by have:=lh xi;omega
  have hxp:xg≠w.heap.size:=fun e=>by
   obtain⟨cur,hc,_⟩:=yy HX;have h5:=yy HVM;rw[←e,hc]at h5;simp at h5
  have hxq:xg≠w.heap.size+1:=fun e=>by
   obtain⟨cur,hc,hr⟩:=yy HX;have h5:=yy HAL;rw[←e,hc]at h5;simp at h5;have h6:=hr 1 (by omega);rw[h5]at h6;simp at h6
  by_cases c5:aY Gm<aY xi
  ·have c5':(aY Gm:Int)<(aY xi:Int):=by omega
   gi_wp2
   have hst:dE (Gm,Ga) xi=(xi,1):=by unfold dE;dsimp only;rw[if_neg (by rintro (h | h)<;>omega),if_pos c5]
   refine oP (yy HJ) hV (yy HRB) (by omega) (by omega) ?_ (gM (gM (yy HL2) (by omega) _) (by omega) _) (gM (gM (yy HD2) (by omega) _) (by omega) _) (((Below.refl w.heap.size V1).setCell (p:=⟨w.heap.size,0,none⟩) (Nat.le_refl _) _).setCell (p:=⟨w.heap.size+1,0,none⟩) (by show w.heap.size≤w.heap.size+1;omega) _) ((uI V1 _ (.inl rfl)).trans (uI _ _ (.inr rfl)));rw[yy HG,hst];refine⟨⟨_,gM (um (yy HVM) _) (by omega) _,.inr ⟨xg,rfl,hfar,hxp,hxq,vl (vl (yy HX) hxp _) hxq _⟩⟩,?_,hlen⟩;have h7:=um (gM (x:=w.heap.size) (yy HAL) (by omega) (Value.slice (some ⟨xg,0,none⟩) xi.length xi.length)) (Value.int .i64 1);rw[show wrap64 (((xi,1):List Int×Nat).2:Int)=1 from au (n:=1) (by omega) (by omega)];exact h7
  ·have c5':¬(aY Gm:Int)<(aY xi:Int):=by omega
   gi_wp2
   have hst:dE (Gm,Ga) xi=(Gm,Ga+1):=by unfold dE;dsimp only;rw[if_neg (by rintro (h | h)<;>omega),if_neg c5]
   refine oP (yy HJ) hV (yy HRB) (by omega) (by omega) ?_ (gM (yy HL2) (by omega) _) (gM (yy HD2) (by omega) _) ((Below.refl w.heap.size V1).setCell (p:=⟨w.heap.size+1,0,none⟩) (by show w.heap.size≤w.heap.size+1;omega) _) (uI V1 _ (.inr rfl));rw[yy HG,hst];refine⟨⟨_,gM (yy HVM) (by omega) _,?_⟩,?_,hlenG⟩
   ·rcases yy HM with h | ⟨g,e,n0,n1,n2,hr⟩
    ·exact .inl h
    ·exact .inr ⟨g,e,n0,n1,n2,vl hr n2 _⟩
   ·have h7:=um (yy HAL) (Value.int .i64 (wrap64 (wrap64 (Ga:Int)+1)));rw[h7]
    have e8:wrap64 (wrap64 (Ga:Int)+1)=wrap64 (((Gm,Ga+1):List Int×Nat).2:Int):=by
     show wrap64 (wrap64 (Ga:Int)+1)=wrap64 ((Ga+1:Nat):Int);exact Ce Ga
    rw[e8]
 case behind=>
  rintro e W' ⟨⟨v,rfl⟩,hJ⟩;refine⟨⟨_,rfl⟩,hJ.rc,?_⟩;have hne:∀k cs t f,W'.heap[k]? = some (.cells cs t f)→some k≠some (w.heap.size+2+1):=fun k cs t f hk e=>by have:=Option.some.inj e;rw[this,hJ.rc]at hk;cases hk
  have hBx:=fun o=>hJ.box.grown (grownBy_putObj' W' (w.heap.size+2+1) o) hne;have HBx:=yz hBx;have HDf:=yz (fun o=>dk hJ.df (grownBy_putObj' W' (w.heap.size+2+1) o) (fun e=>by have:=Option.some.inj e;omega));have HBl:=yz (fun o=>hJ.bel.trans ((Below.refl w.heap.size W').grown (grownBy_putObj' W' (w.heap.size+2+1) o) hJ.bel.size (fun k e=>by cases e;omega)));obtain⟨⟨vm,hvm,hmost⟩,halike,hlen6⟩:=hJ.box;have m0:=fun o=>(kC (dk hvm (grownBy_putObj' W' (w.heap.size+2+1) o) (hne _ _ _ _ hvm))).1;have a0:=fun o=>(kC (dk halike (grownBy_putObj' W' (w.heap.size+2+1) o) (hne _ _ _ _ halike))).1;have HM:=yz hmost;have HNe:=yz hne;clear hBx hvm hmost halike hne hJ B1 Bw hl1 hd1 hp0 hq0 B0 Jst has hbo htm hpa hpe hst;gi_wp2
  gi_region
  gi_wp2
  refine⟨by simp,.inl ⟨w.heap.size+2,_,rfl,run_takeDeferred (yy HDf _),?_⟩⟩;have HBy:=yz (fun o=>(yy HBl o).drew.trans ((Below.refl w.heap.size _).grown (grownBy_putObj' (W'.putObj (w.heap.size+2+1) o).drew (w.heap.size+2) (.deferred none)) (yy HBl o).size (fun k e=>by cases e;omega)));refine⟨_,by simp[results,go_sem];rfl,⟨vm,rfl,?_⟩,yy HBy _,hlen6⟩;rcases yy HM with h | ⟨g,e,n0,n1,n2,hr⟩
  ·exact .inl h
  ·refine .inr ⟨g,e,n0,?_⟩;obtain⟨cur,hc,hr⟩:=hr;have k1:=fun o=>dk hc (grownBy_putObj' W' (w.heap.size+2+1) o) (yy HNe _ _ _ _ hc)
   have hgd:g≠w.heap.size+2:=fun e=>by
    have h2:=yy HDf (.deferred none);have h3:=k1 (.deferred none);rw[e,h2]at h3;cases h3
   have k2:∀o,((W'.putObj (w.heap.size+2+1) o).drew.putObj (w.heap.size+2) (.deferred none)).heap[g]? = some (.cells cur 2 (0,0)):=fun o=>(World.putObj_heap_other hgd).trans (k1 o);exact⟨cur,k2 _,hr⟩
theorem xw(L:List St)(S:List D3)(ar br:Option Addr)(cr dr:Nat)(w:World):
  Calls Tryz.prog 143 #[.slice ar L.length cr,.slice br S.length dr] w fun e w'=>e=.returned (.func (.func 164) #[] #[.pointer (some ⟨w.heap.size,0,none⟩),.pointer (some ⟨w.heap.size+1,0,none⟩)])∧w'.cell? ⟨w.heap.size,0,none⟩=some (.slice ar L.length cr)∧w'.cell? ⟨w.heap.size+1,0,none⟩=some (.slice br S.length dr)∧Below w.heap.size w w':=by
 go_enter Tryz.func143,Tryz.ntmps143;go_wp2;refine bodyPost_ret (v:=.func (.func 164) #[] #[.pointer (some ⟨w.heap.size,0,none⟩),.pointer (some ⟨w.heap.size+1,0,none⟩)]) (by simp[results,go_sem]) rfl ⟨rfl,?_,?_,aX w _ _⟩
 ·exact bC (by simp) (an _ _)
 ·have:=World.alloc_heap_new (w.alloc (.cells #[.slice ar L.length cr] 41)) (.cells #[.slice br S.length dr] 78);rw[World.size_alloc]at this;exact(kC this).1
end
section
open Go.Value renaming int → J
open Go.IntKind renaming i64 → Z
open Go.RowKit Go.Sort Go.Shelf
def Ep(w':World)(B:Nat)(ids:List Int)(cnt code:Int)(e:Ending):Prop:=∃v,e=.returned (.agg #[v,J Z cnt,J Z code])∧((ids=[]∧v=.slice none 0 0)∨∃g,v=.slice (some ⟨g,0,none⟩) ids.length ids.length∧B≤g∧dz w' 2 g (ids.length*1) (rg ids))
theorem jD(T:Array Value)(X:World)(b:Nat)(v:Value)(c k:Int)(hT:T.getD 4 undef=.pointer (some ⟨b,0,none⟩))(h:IdO X b v c k):(results Tryz.f116 T).run Tryz.prog X=.ok (.agg #[v,J Z c,J Z k]) X:=by
 obtain⟨h0,h1,h2⟩:=h;simp only[Array.getD_eq_getD_getElem?]at hT;simp[results,Tryz.results116,go_sem,hT,h0,h1,h2]
theorem rt{W:World}{x g m:Nat}{t:TypeId}{f:Nat→Value}(h:dz W t g m f)(hne:g≠x)(o:Nat)(v:Value):dz (W.setCell ⟨x,o,none⟩ v) t g m f:=by
 obtain⟨cur,hc,hr⟩:=h;exact⟨cur,by rw[Below.heap_setCell W ⟨x,o,none⟩ v g hne];exact hc,hr⟩
theorem wC:∀(X:List (List Int)) (g:List Int×Nat),(X.foldl dE g).2≤g.2+X.length
 | [],g=>by simp
 | x :: X,g=>by
  have h1:=wC X (dE g x)
  have h2:(dE g x).2≤g.2+1:=by
   unfold dE;split
   ·exact Nat.le_succ _
   ·split
    ·show 1≤g.2+1;omega
    ·exact Nat.le_refl _
  rw[List.foldl_cons,List.length_cons];omega
theorem Bd(L:List St)(S:List D3)(hk:bc L=true)(hm:S.length≤6):(dL L S).2≤4826809:=by
 have h1:=wC (eN (dB L S) (L.map (·.1)) S.length []) ([],0);have h2:=mP (dB L S) (L.map (·.1)) (by rw[List.length_map];exact(cg hk).1) S.length [];have h3:13 ^ S.length≤13 ^ 6:=Nat.pow_le_pow_right (by omega) hm;have h4:(13:Nat) ^ 6=4826809:=by decide
 unfold dL;rw[h4]at h3;exact Nat.le_trans h1 (by show 0+_≤_;omega)
theorem iy{w':World}{B:Nat}{L:List St}{S:List D3}{k:Int}(h:bl L S=[]∧ef L S=0∧bD L S=k):Ep w' B (bl L S) (ef L S) (bD L S) (.returned (.agg #[.slice none 0 0,J Z 0,J Z k])):=by
 rw[h.1,h.2.1,h.2.2];exact⟨_,rfl,.inl ⟨rfl,rfl⟩⟩
theorem nk(L:List St)(S:List D3)(ar br:Option Addr)(cr dr:Nat)(p:Addr)(w:World)(hn:L.length≤1048576)(hm:S.length≤1048576)(hcr:L.length≤cr)(hc9:cr≤9223372036854775807)(hdr:S.length≤dr)(hd9:dr≤9223372036854775807)(hS:aZ w ar L L.length)(hD:dh w br S S.length)(hA:∀y,ar=some y→y.block<w.heap.size)(hB:∀y,br=some y→y.block<w.heap.size)(hE:bE p w):
  Calls Tryz.prog 116 #[.slice ar L.length cr,.slice br S.length dr] w fun e w'=>Ep w' w.heap.size (bl L S) (ef L S) (bD L S) e∧Below w.heap.size w w':=by
 have B0:=an w (.cells #[.slice none 0 0,J Z 0,J Z 0] 83);by_cases hbig:400<L.length∨400<S.length
 ·have HO:=yz (oA hbig);by_cases h4:400<L.length
  ·have h4':(400:Int)<(L.length:Int):=by omega
   go_enter Tryz.func116,Tryz.ntmps116;go_wp2;exact bodyPost_ret (v:=.agg #[.slice none 0 0,J Z 0,J Z 2]) (by simp[results,Tryz.results116,go_sem]) rfl ⟨iy (yy HO),an _ _⟩
  ·have h4':¬(400:Int)<(L.length:Int):=by omega
   have h5':(400:Int)<(S.length:Int):=by omega
   go_enter Tryz.func116,Tryz.ntmps116;go_wp2;exact bodyPost_ret (v:=.agg #[.slice none 0 0,J Z 0,J Z 2]) (by simp[results,Tryz.results116,go_sem]) rfl ⟨iy (yy HO),an _ _⟩
 have h4':¬(400:Int)<(L.length:Int):=by omega
 have h5':¬(400:Int)<(S.length:Int):=by omega
 have R0:IdO (w.alloc (.cells #[.slice none 0 0,J Z 0,J Z 0] 83)) w.heap.size (.slice none 0 0) 0 0:=by refine⟨?_,?_,?_⟩<;>simp
 have F0:ig (w.alloc (.cells #[.slice none 0 0,J Z 0,J Z 0] 83)) w.heap.size:=fun i=>by simp
 have hsz:w.heap.size+1≤(w.alloc (.cells #[.slice none 0 0,J Z 0,J Z 0] 83)).heap.size:=by simp
 have cS:=yz (fun (W:World) h h2=>fz L ar cr p W hn hcr hc9 h h2);have HE:=yz (hE.kept B0);have cD:=yz (fun (W:World) h=>gx S br dr W hm hdr hd9 h);have HB:=yz B0;have HR:=yz R0;have HF:=yz F0;have HS:=yz (hS.kept B0);have HD:=yz (hD.kept B0);clear B0 R0 F0 hS hD hE;go_enter Tryz.func116,Tryz.ntmps116;go_wp2_with fail;generalize hW:w.alloc (.cells #[.slice none 0 0,J Z 0,J Z 0] 83)=W at *;clear hW;refine(yy cS _ (yy HS) (yy HE)).mono ?_;rintro e w1 ⟨rfl,hx⟩;have B1:=ax HB hx;have R1:=ap HR hx;have F1:=yz ((yy HF).kept (by omega) hx);have S1:=ap HS hx;have D1:=ap HD hx;have hsz1:w.heap.size+1≤w1.heap.size:=Nat.le_trans hsz hx.size;clear hx HB HR HF HS HD hsz cS;cases hk:bc L
 ·have HO:=yz (kL hbig (by unfold lN;rw[hk];rfl));obtain⟨r0,r1,r2⟩:=yy R1;have f0:=yy F1 0;have f1:=yy F1 1;have f2:=yy F1 2;go_wp2_with fail;clear r0 r1 r2 f0 f1 f2;exact bodyPost_ret (v:=.agg #[.slice none 0 0,J Z 0,J Z 1]) (jD _ _ w.heap.size _ 0 1 rfl (gp (yy R1) _ _ _)) rfl ⟨iy (yy HO),((((yy B1).setCell (Nat.le_refl _) _).setCell (Nat.le_refl _) _).setCell (Nat.le_refl _) _)⟩
 go_wp2_with fail;refine(yy cD _ (yy D1)).mono ?_;rintro e w2 ⟨rfl,hx⟩;have B2:=ax B1 hx;have R2:=ap R1 hx;have F2:=yz ((yy F1).kept (by omega) hx);have S2:=ap S1 hx;have D2:=ap D1 hx;have hsz2:w.heap.size+1≤w2.heap.size:=Nat.le_trans hsz1 hx.size;clear hx B1 R1 F1 S1 D1 hsz1 cD;cases hp:ba S
 ·have HO:=yz (kL hbig (by unfold lN;rw[hp,Bool.and_false]));obtain⟨r0,r1,r2⟩:=yy R2;have f0:=yy F2 0;have f1:=yy F2 1;have f2:=yy F2 2;go_wp2_with fail;clear r0 r1 r2 f0 f1 f2;exact bodyPost_ret (v:=.agg #[.slice none 0 0,J Z 0,J Z 1]) (jD _ _ w.heap.size _ 0 1 rfl (gp (yy R2) _ _ _)) rfl ⟨iy (yy HO),((((yy B2).setCell (Nat.le_refl _) _).setCell (Nat.le_refl _) _).setCell (Nat.le_refl _) _)⟩
 have HO:=yz (jy hbig (by unfold lN;rw[hk,hp];rfl));have hs6:S.length≤6:=(bS hp).1;have hgb:=Bd L S hk hs6;clear hp;go_wp2_with fail;refine(xw L S ar br cr dr w2).mono ?_;rintro e w3 ⟨rfl,p1,p2,hx⟩;have B3:=ax B2 hx;have R3:=ap R2 hx;have F3:=yz ((yy F2).kept (by omega) hx);have S3:=ap S2 hx;have D3':=ap D2 hx;have hsz3:w.heap.size+1≤w3.heap.size:=Nat.le_trans hsz2 hx.size;have cG:=yz ((callsIn_wide (n:=0)).1 (uy L S ar br cr dr w2.heap.size (w2.heap.size+1) w3 hk hs6 p1 p2 (yy S3) (yy D3') (fun y e=>by have:=hA y e;omega) (fun y e=>by have:=hB y e;omega) 0));clear p1 p2 hx B2 R2 F2 S2 D2 hk;go_wp2_with fail;refine(yy cG).mono ?_;rintro e w4 ⟨⟨v,rfl,hv⟩,hx,hl6⟩;have B4:=ax B3 hx;have R4:=ap R3 hx;have F4:=yz ((yy F3).kept (by omega) hx);have hsz4:w.heap.size+1≤w4.heap.size:=Nat.le_trans hsz3 hx.size;have HV:=yz hv;clear hx hv B3 R3 F3 S3 D3' cG;rw[au (n:=((dL L S).2:Int)) (by omega) (by omega)];have HG:=yz (mh L S);obtain⟨Gi,hGi⟩:∃G,(dL L S)=G:=⟨_,rfl⟩
 rw[hGi]at HV HG hgb hl6 ⊢;clear hGi;obtain⟨gi,ga⟩:=Gi;dsimp only at HV HG hgb hl6 ⊢;obtain⟨r0,r1,r2⟩:=yy R4;have f0:=yy F4 0;have f1:=yy F4 1;have f2:=yy F4 2;by_cases c0:ga=0
 ·have c0':(ga:Int)=0:=by omega
  go_wp2_with fail;clear r0 r1 r2 f0 f1 f2;have h8:bl L S=[]∧ef L S=0∧bD L S=6:=⟨by rw[(yy HO).1,(yy HG).1,if_neg (by omega)],by rw[(yy HO).2.1,(yy HG).2.1,if_neg (by omega)],by rw[(yy HO).2.2,(yy HG).2.2,if_pos c0]⟩
  exact bodyPost_ret (v:=.agg #[.slice none 0 0,J Z 0,J Z 6]) (jD _ _ w.heap.size _ 0 6 rfl (gp (yy R4) _ _ _)) rfl ⟨iy h8,((((yy B4).setCell (Nat.le_refl _) _).setCell (Nat.le_refl _) _).setCell (Nat.le_refl _) _)⟩
 have c0':¬(ga:Int)=0:=by omega
 by_cases c1:1<ga
 ·have c1':(1:Int)<(ga:Int):=by omega
  go_wp2_with fail;clear r0 r1 r2 f0 f1 f2;have h8:bl L S=[]∧ef L S=0∧bD L S=11:=⟨by rw[(yy HO).1,(yy HG).1,if_neg (by omega)],by rw[(yy HO).2.1,(yy HG).2.1,if_neg (by omega)],by rw[(yy HO).2.2,(yy HG).2.2,if_neg c0,if_pos c1]⟩
  exact bodyPost_ret (v:=.agg #[.slice none 0 0,J Z 0,J Z 11]) (jD _ _ w.heap.size _ 0 11 rfl (gp (yy R4) _ _ _)) rfl ⟨iy h8,((((yy B4).setCell (Nat.le_refl _) _).setCell (Nat.le_refl _) _).setCell (Nat.le_refl _) _)⟩
 have c1':¬(1:Int)<(ga:Int):=by omega
 have hga:ga=1:=by omega
 have h8:bl L S=gi∧ef L S=(aY gi:Int)∧bD L S=0:=⟨by rw[(yy HO).1,(yy HG).1,if_pos hga],by rw[(yy HO).2.1,(yy HG).2.1,if_pos hga],by rw[(yy HO).2.2,(yy HG).2.2,if_neg c0,if_neg c1]⟩
 obtain⟨va,vc,rfl,hnm⟩:∃a c,v=.slice a gi.length c∧hU w4 a gi gi.length:=by
  rcases yy HV with ⟨e1,e2⟩ | ⟨g,e,_,hr⟩
  ·exact⟨none,0,by rw[e1,e2];rfl,.inl (by rw[e1];rfl)⟩
  ·exact⟨_,_,e,nw hr⟩
 have cN:=yz (gl gi va vc w4 (by omega) hnm);clear hnm;go_wp2_with fail;refine(yy cN).mono ?_;rintro e w5 ⟨rfl,hw5⟩;subst hw5;go_wp2_with fail;clear r0 r1 r2 f0 f1 f2;rw[h8.1,h8.2.1,h8.2.2];refine bodyPost_ret (v:=.agg #[.slice va gi.length vc,J Z (aY gi:Int),J Z 0]) (jD _ _ w.heap.size _ (aY gi:Int) 0 rfl (gp (yy R4) _ _ _)) rfl ⟨⟨_,rfl,?_⟩,((((yy B4).setCell (Nat.le_refl _) _).setCell (Nat.le_refl _) _).setCell (Nat.le_refl _) _)⟩;rcases yy HV with h | ⟨g,e,hg,hr⟩
 ·exact .inl h
 ·have hne:g≠w.heap.size:=by omega
  exact .inr ⟨g,e,by omega,rt (rt (rt hr hne 0 _) hne 1 _) hne 2 _⟩
end
section
open Go.RowKit Go.Sort
theorem lg(F:List Int→Int→Bool)(A:List Int):∀(r:Nat) (ids l:List Int),l∈eN F A r ids→l.length=ids.length+r
 | 0,ids,l,h=>by
  simp only[eN,List.mem_singleton]at h;subst h;omega
 | r+1,ids,l,h=>by
  simp only[eN,List.mem_append,List.mem_flatMap]at h;rcases h with ⟨a,_,h⟩ | h
  ·have:=lg F A r _ l h;rw[List.length_append]at this;simp at this;omega
  ·have:=lg F A r _ l h;rw[List.length_append]at this;simp at this;omega
theorem qF(m:Nat):∀(X:List (List Int)) (g:List Int×Nat),(∀l∈X,l.length≤m)→g.1.length≤m→(X.foldl dE g).1.length≤m
 | [],g,_,h=>h
 | x :: X,g,hX,h=>by
  rw[List.foldl_cons];refine qF m X _ (fun l hl=>hX l (List.mem_cons_of_mem _ hl)) ?_;unfold dE;split
  ·exact h
  ·split
   ·exact hX x (List.mem_cons_self ..)
   ·exact h
theorem qM(L:List St)(S:List D3):(bl L S).length≤6:=by
 by_cases hb:400<L.length∨400<S.length
 ·rw[(oA hb).1];simp
 ·cases ho:lN L S
  ·rw[(kL hb ho).1];simp
  ·rw[(jy hb ho).1,(mh L S).1];have hp:ba S=true:=by unfold lN at ho;simp at ho;exact ho.2
   have h6:=(bS hp).1;split
   ·refine Nat.le_trans (qF S.length _ _ (fun l hl=>?_) (by simp)) h6;have:=lg _ _ _ _ _ hl;simp at this;omega
   ·simp
theorem jt.sliceI{w:World}{t:TypeId}{c lo hi n:Nat}{v:Value}{f:Nat→Value}(h:jt w t c lo hi n v f):∃a k,v=.slice a n k:=by
 rcases h with ⟨rfl,a,k,rfl⟩ | ⟨g,k,rfl,_⟩
 ·exact⟨a,k,rfl⟩
 ·exact⟨_,k,rfl⟩
theorem BJ{w':World}{B:Nat}{ids:List Int}{cnt code:Int}{e:Ending}(h:Cj w' B ids cnt code e):∃a k,e=.returned (.agg #[.slice a ids.length k,.int .i64 cnt,.int .i64 code])∧jt w' 2 1 B w'.heap.size ids.length (.slice a ids.length k) (uf (fun j=>ids.getD j 0) (fun _=>false)):=by
 obtain⟨v,he,ho⟩:=h
 have hp:jt w' 2 1 B w'.heap.size ids.length v (uf (fun j=>ids.getD j 0) (fun _=>false)):=jt.of ho (fun j h=>by
  have h':j<ids.length:=by omega
  show (ids.map (fun z=>Value.int .i64 z))[j]? = some (.int .i64 (ids.getD j 0));rw[List.getElem?_map,List.getElem?_eq_getElem h',List.getD_eq_getElem?_getD,List.getElem?_eq_getElem h']
  rfl)
 obtain⟨a,k,rfl⟩:=hp.sliceI;exact⟨a,k,he,hp⟩
end
end Go.Proofs.YtdchjcadhlkpfaaGreatDoor
