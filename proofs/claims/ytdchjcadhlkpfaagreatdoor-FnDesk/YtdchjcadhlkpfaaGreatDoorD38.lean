/- Several texts in one: SplitM, DrawT1, DrawT2, DrawT5, SpL5. -/
import Derived.Test.YtdchjcadhlkpfaaGreatDoorD5
import Derived.Test.YtdchjcadhlkpfaaGreatDoorD31
import Derived.Test.YtdchjcadhlkpfaaGreatDoorD18
namespace Go.Proofs.YtdchjcadhlkpfaaGreatDoor
set_option linter.unusedVariables false
set_option linter.unusedSimpArgs false
set_option maxRecDepth 100000
set_option maxHeartbeats 8000000
section
open Go.RowKit
theorem oz{a b c:World}{row r:Option Nat}(h:a.grownBy b row)(k:b.grownBy c r)(hr:∀i,r=some i→a.heap.size≤i):a.grownBy c row:=
 ⟨k.os.trans h.os,k.tape.trans h.tape,k.output.trans h.output,Nat.le_trans h.size k.size,fun i hi hn=>(k.block i (Nat.lt_of_lt_of_le hi h.size) (fun e=>by have:=hr i e.symm;omega)).trans (h.block i hi hn)⟩
theorem qK{a b:World}{row:Option Nat}(h:a.grownBy b row)(o:Obj):a.grownBy (b.alloc o) row:=oz h (World.grownBy_alloc b o none) (fun i e=>by cases e)
theorem pC{a b:World}(h:a.grownBy b none):Below a.heap.size a b:=⟨h.os,h.tape,h.output,h.size,fun i hi=>h.block i hi (fun e=>by cases e)⟩
theorem EJ:(Tryz.prog.info? 9).map (fun i=>(i.zero,i.size,i.bytes))=some (some (.string ⟨#[]⟩),1,16):=by kernel_rfl
theorem CU:∃i:TypeInfo,Tryz.prog.info? 9=some i∧i.zero=some (.string ⟨#[]⟩)∧i.size=1∧i.bytes=16:=by
 have h:=EJ;cases hi:Tryz.prog.info? 9 with
 | none=>rw[hi]at h;cases h
 | some i=>
  rw[hi]at h;have:=Option.some.inj h;simp only[Prod.mk.injEq]at this;exact⟨i,rfl,this.1,this.2.1,this.2.2⟩
def iR(l:List UInt8):Value:=.string ⟨l.toArray⟩
def spN(s:ByteArray)(k:Nat):List (List UInt8)×List UInt8:=bX ([],[]) (s.data.toList.take k)
theorem Ff(s:ByteArray):spN s s.size=bX ([],[]) s.data.toList:=by
 unfold spN;congr 1
 exact List.take_of_length_le (by simp)
theorem rC(s:ByteArray)(k:Nat)(h:k<s.size):spN s (k+1)=if s[k]=44 then ((spN s k).1 ++ [(spN s k).2],[]) else ((spN s k).1,(spN s k).2 ++ [s[k]]):=by
 have hl:k<s.data.toList.length:=by simpa using h
 have e:s.data.toList.take (k+1)=s.data.toList.take k ++ [s.data.toList[k]]:=by rw[List.take_succ_eq_append_getElem hl]
 have e2:s.data.toList[k]=s[k]:=by
  have:=me s k h;rw[List.getElem?_eq_getElem hl]at this;exact Option.some.inj this
 unfold spN;rw[e,sI,e2];show (if s[k]=44 then bX _ [] else bX _ [])=_;split<;>rfl
theorem At(s:ByteArray)(k:Nat)(h:k≤s.size):(spN s k).1.length≤k:=by
 induction k with
 | zero=>exact Nat.le_refl _
 | succ k ih=>
  have:=ih (by omega);rw[rC s k (by omega)];split
  ·simp;omega
  ·show (spN s k).1.length≤k+1;omega
def frN(s:ByteArray):Nat→Nat
 | 0=>0
 | k+1=>if gU s k=44 then k+1 else frN s k
theorem yH(s:ByteArray)(k:Nat):frN s k≤k:=by
 induction k with
 | zero=>exact Nat.le_refl _
 | succ k ih=>show (if gU s k=44 then k+1 else frN s k)≤k+1;split<;>omega
theorem xI(s:ByteArray)(k:Nat)(h:k≤s.size):s.extract (frN s k) k=⟨(spN s k).2.toArray⟩:=by
 apply ByteArray.ext;apply Array.toList_inj.1;rw[ByteArray.data_extract,Array.toList_extract];show List.extract s.data.toList (frN s k) k=(spN s k).2.toArray.toList;have e0:(spN s k).2.toArray.toList=(spN s k).2:=by simp
 rw[e0,List.extract_eq_take_drop]
 induction k with
 | zero=>rfl
 | succ k ih=>
  have hk:k<s.size:=by omega
  have hb:gU s k=s[k].toNat:=kD hk;rw[rC s k hk];show ((s.data.toList.drop (if gU s k=44 then k+1 else frN s k)).take (k+1-(if gU s k=44 then k+1 else frN s k)))=_;by_cases c:s[k]=44
  ·have cb:gU s k=44:=by rw[hb,c];rfl
   rw[if_pos cb,if_pos c];simp
  ·have cb:¬gU s k=44:=by rw[hb];intro e;exact c (UInt8.toNat.inj (e.trans rfl))
   rw[if_neg cb,if_neg c];have hf:=yH s k;have hl:k-frN s k<(s.data.toList.drop (frN s k)).length:=by simp;omega
   have e1:k+1-frN s k=(k-frN s k)+1:=by omega
   rw[e1,List.take_succ_eq_append_getElem hl,ih (by omega) (by simp)];congr 1
   have hl2:k<s.data.toList.length:=by simpa using hk
   have:(s.data.toList.drop (frN s k))[k-frN s k]=s.data.toList[k]:=by
    rw[List.getElem_drop];congr 1
    omega
   rw[this];have hx:=me s k hk;rw[List.getElem?_eq_getElem hl2]at hx;rw[Option.some.inj hx]
end
section
open Go.Value renaming int → J
open Go.IntKind renaming i64 → Z
open Go.RowKit
variable {p q r s:Int} {w w':World}
theorem gN(h:Below w.heap.size w w')(row:Option Nat):w.grownBy w' row:=⟨h.os,h.tape,h.output,h.size,fun i hi _=>h.block i hi⟩
theorem bn.below{b:Nat}(h:bn b w)(hB:Below w.heap.size w w'):bn b w':=h.kept (gN hB none) (fun _ e=>by cases e)
theorem aJ.grown{b c:Nat}(h:aJ w b p q r s)(hg:w.grownBy w' (some c))(hne:b≠c):aJ w' b p q r s:=by
 obtain⟨h0,h1,h2,h3⟩:=h;have hn:∀i,some (⟨b,i,none⟩:Addr).block≠some c:=fun i e=>hne (Option.some.inj e);exact⟨hg.cell h0 (hn 0),hg.cell h1 (hn 1),hg.cell h2 (hn 2),hg.cell h3 (hn 3)⟩
theorem dx.grown{b c:Nat}(h:dx w b)(hb:b<w.heap.size)(hg:w.grownBy w' (some c))(hne:b≠c):dx w' b:=by
 obtain⟨h0,h1,h2,h3⟩:=h;have hf:∀i,w'.frozen? ⟨b,i,none⟩=w.frozen? ⟨b,i,none⟩:=fun i=>World.frozen?_of_block (hg.block b hb (fun e=>hne (Option.some.inj e)));exact⟨by rw[hf];exact h0,by rw[hf];exact h1,by rw[hf];exact h2,by rw[hf];exact h3⟩
theorem dN.grown{b c:Nat}{k:Int}(h:dN w b p q r s k)(hg:w.grownBy w' (some c))(hne:b≠c):dN w' b p q r s k:=by
 obtain⟨h0,h1,h2,h3,h4⟩:=h;have hn:∀i,some (⟨b,i,none⟩:Addr).block≠some c:=fun i e=>hne (Option.some.inj e);exact⟨hg.cell h0 (hn 0),hg.cell h1 (hn 1),hg.cell h2 (hn 2),hg.cell h3 (hn 3),hg.cell h4 (hn 4)⟩
theorem lK{b:Nat}(h:aJ w b p q r s)(x y z u:Int):aJ ((((w.setCell ⟨b,0,none⟩ (J Z x)).setCell ⟨b,1,none⟩ (J Z y)).setCell ⟨b,2,none⟩ (J Z z)).setCell ⟨b,3,none⟩ (J Z u)) b x y z u:=by
 obtain⟨h0,h1,h2,h3⟩:=h;refine⟨?_,?_,?_,?_⟩<;>simp[go_sem,h0,h1,h2,h3]
theorem lm{a:World}{row:Option Nat}(h:a.grownBy w row):a.grownBy w.drew row:=⟨h.os,h.tape,h.output,h.size,h.block⟩
theorem bn.drewT{b:Nat}(h:bn b w):bn b w.drew:=h.kept (row:=none) ⟨rfl,rfl,rfl,Nat.le_refl _,fun _ _ _=>rfl⟩ (fun _ e=>by cases e)
theorem jg(a b c d:Int)(w:World):
  Calls Tryz.prog 70 #[J Z a,J Z b,J Z c,J Z d] w fun e w'=>∃p q r s k:Int,e=.returned (.agg #[J Z p,J Z q,J Z r,J Z s,J Z k])∧Below w.heap.size w w':=
 (kW a b c d w).mono fun e w' h=>⟨_,_,_,_,_,h.1,h.2⟩
theorem pi(b:Nat)(w:World)(hS:bn b w):
  Calls Tryz.prog 45 #[.pointer (some ⟨b,0,none⟩)] w fun e w'=>∃p q r s:Int,e=.returned (.agg #[J Z p,J Z q,J Z r,J Z s])∧bn b w'∧w.grownBy w' (some b):=by
 have hlt:=hS.lt;have HS:=yz hS;clear hS;go_enter Tryz.func45,Tryz.ntmps45;go_wp2_with fail;refine(gt b 3 _ ((yy HS).allocs _) (by omega)).mono ?_;rintro e w1 ⟨y,rfl,hS1,hg1⟩;have vr:=(aP w 0 0 0 0 43).grown hg1 (by omega);have fr:=(ll w 0 0 0 0 43).grown (by simp) hg1 (by omega);have hg:=ay (World.grownBy_alloc w _ (some b)) hg1;have HS1:=yz hS1;have Vr:=yz vr;have Fr:=yz fr;have HG:=yz hg;clear hS1 hg1 vr fr hg;cases y
 ·go_wp2_with fail;refine(gt b 10 _ (yy HS1) (by omega)).mono ?_;rintro e w2 ⟨y2,rfl,hS,hg⟩;have HS2:=yz hS;replace Fr:=yz ((yy Fr).grown (yy Vr).lt hg (by omega));replace Vr:=yz ((yy Vr).grown hg (by omega));replace HG:=yz (ay (yy HG) hg);clear hS hg HS1;cases y2
  ·go_wp2_with fail;refine(dV b 3 _ (yy HS2) (by omega)).mono ?_;rintro e w3 ⟨z0,rfl,_,_,_,hS,hg⟩;have HS3:=yz hS;replace Fr:=yz ((yy Fr).grown (yy Vr).lt hg (by omega));replace Vr:=yz ((yy Vr).grown hg (by omega));replace HG:=yz (ay (yy HG) hg);clear hS hg HS2;go_wp2_with fail;refine(dV b 3 _ (yy HS3) (by omega)).mono ?_;rintro e w4 ⟨z1,rfl,_,_,_,hS,hg⟩;have HS4:=yz hS;replace Fr:=yz ((yy Fr).grown (yy Vr).lt hg (by omega));replace Vr:=yz ((yy Vr).grown hg (by omega));replace HG:=yz (ay (yy HG) hg);clear hS hg HS3;go_wp2_with fail;refine(dV b 3 _ (yy HS4) (by omega)).mono ?_;rintro e w5 ⟨z2,rfl,_,_,_,hS,hg⟩;have HS5:=yz hS;replace Fr:=yz ((yy Fr).grown (yy Vr).lt hg (by omega));replace Vr:=yz ((yy Vr).grown hg (by omega));replace HG:=yz (ay (yy HG) hg);clear hS hg HS4;go_wp2_with fail;refine(dV b 3 _ (yy HS5) (by omega)).mono ?_;rintro e w6 ⟨z3,rfl,_,_,_,hS,hg⟩;have HS6:=yz hS;replace Fr:=yz ((yy Fr).grown (yy Vr).lt hg (by omega));replace Vr:=yz ((yy Vr).grown hg (by omega));replace HG:=yz (ay (yy HG) hg);clear hS hg HS5;go_wp2_with fail;refine(jg _ _ _ _ _).mono ?_;rintro e w7 ⟨p,q,r,s,k,rfl,hx⟩;have Vr7:=yz ((yy Vr).kept (yy Vr).lt hx);have Fr7:=yz ((yy Fr).kept (yy Vr).lt hx);have HS7w:=yz ((yy HS6).below hx);have HG7:=yz (ay (yy HG) (gN hx (some b)));have HLT:w.heap.size<w7.heap.size:=((yy Vr).kept (yy Vr).lt hx).lt;replace Fr:=yz (((yy Fr).kept (yy Vr).lt hx).kept ((yy Vr).kept (yy Vr).lt hx).lt (an w7 (.cells #[J Z p,J Z q,J Z r,J Z s,J Z k] 108)));replace Vr:=yz (((yy Vr).kept (yy Vr).lt hx).alloc (.cells #[J Z p,J Z q,J Z r,J Z s,J Z k] 108));have Vx:=yz (dl w7 p q r s k 108);have HS7:=yz ((((yy HS6).below hx)).allocs (.cells #[J Z p,J Z q,J Z r,J Z s,J Z k] 108));replace HG:=yz (ay (ay (yy HG) (gN hx (some b))) (World.grownBy_alloc w7 (.cells #[J Z p,J Z q,J Z r,J Z s,J Z k] 108) (some b)));have hbx:b<w7.heap.size:=Nat.lt_of_lt_of_le (yy HS6).lt hx.size;clear hx HS6;have vx:=yy Vx;obtain⟨cx0,cx1,cx2,cx3,cx4⟩:=vx;by_cases hk:k=0
   ·subst hk;go_wp2_with fail;clear cx0 cx1 cx2 cx3 cx4;refine(gt b 20 _ (yy HS7) (by omega)).mono ?_;rintro e w8 ⟨y3,rfl,hS,hg⟩;replace Vx:=yz ((yy Vx).grown hg (by omega));have HS8:=yz hS;replace Fr:=yz ((yy Fr).grown (yy Vr).lt hg (by omega));replace Vr:=yz ((yy Vr).grown hg (by omega));replace HG:=yz (ay (yy HG) hg);clear hS hg HS7;have hlt8:w.heap.size<w7.heap.size:=HLT;have vx:=yy Vx;obtain⟨cx0,cx1,cx2,cx3,cx4⟩:=vx;obtain⟨cr0,cr1,cr2,cr3⟩:=yy Vr;obtain⟨fr0,fr1,fr2,fr3⟩:=yy Fr;have hbr:b<w.heap.size:=hlt;cases y3
    ·have HSX:=HS8;go_wp2_with fail;exact bodyPost_ret (v:=.agg #[J Z p,J Z q,J Z r,J Z s]) (by simp[results,Tryz.results45,go_sem,cr0,cr1,cr2,cr3]) rfl ⟨_,_,_,_,rfl,(((bn.set (yy HSX) hbr _).set hbr _).set hbr _).set hbr _,aE (aE (aE (aE (yy HG) (Nat.le_refl _) _) (Nat.le_refl _) _) (Nat.le_refl _) _) (Nat.le_refl _) _⟩
    ·have hne1:w.heap.size≠w7.heap.size:=by have:=hlt8;omega
     have hne2:w7.heap.size≠w.heap.size:=Ne.symm hne1;have HC:Hid (w8.cell? ⟨w7.heap.size,0,none⟩=some (J Z p)∧w8.cell? ⟨w7.heap.size,1,none⟩=some (J Z q)∧w8.cell? ⟨w7.heap.size,2,none⟩=some (J Z r)):=yz ⟨cx0,cx1,cx2⟩;clear cx0 cx1 cx2 cx3 cx4 cr0 cr1 cr2 cr3 fr0 fr1 fr2 fr3;go_wp2_with fail;have cN:Hid (Calls Tryz.prog 25 #[.pointer (some ⟨b,0,none⟩),J Z 4] w8.drew fun e w'=>∃z:Int,e=.returned (J Z z)∧dN w' w7.heap.size p q r s 0∧aJ w' w.heap.size 0 0 0 0∧dx w' w.heap.size∧Hid (bn b w')∧Hid (w.grownBy w' (some b))):=yz ((dV b 4 _ (yy HS8).drewT (by omega)).mono fun e w' ⟨z,he,_,_,_,hSn,hgn⟩=>⟨z,he,(show dN w8.drew w7.heap.size p q r s 0 from yy Vx).grown hgn (by omega),(show aJ w8.drew w.heap.size 0 0 0 0 from yy Vr).grown hgn (by omega),(show dx w8.drew w.heap.size from yy Fr).grown (yy Vr).lt hgn (by omega),yz hSn,yz (ay (lm (yy HG)) hgn)⟩);go_region_held (fun w'=>w'.cell? ⟨w7.heap.size,0,none⟩=some (J Z p)∧w'.cell? ⟨w7.heap.size,1,none⟩=some (J Z q)∧w'.cell? ⟨w7.heap.size,2,none⟩=some (J Z r)) (first | (with_reducible exact(yy HC)) | exact(yy HC) | (with_reducible exact⟨q0,q1,q2⟩) | simp[go_sem,q0,q1,q2]) ((go_at_call 25;refine(yy cN).mono ?_;rintro e wn ⟨zz,rfl,⟨q0,q1,q2,q3,q4⟩,⟨cr0,cr1,cr2,cr3⟩,⟨fr0,fr1,fr2,fr3⟩,HSX,HGX⟩))
     all_goals go_wp2
     all_goals exact bodyPost_ret (v:=.agg #[J Z p,J Z q,J Z r,J Z (IntKind.i64.wrap (6-IntKind.i64.wrap (2*zz)))]) (by simp[results,Tryz.results45,go_sem,cr0,cr1,cr2,cr3]) rfl ⟨_,_,_,_,rfl,(((bn.set (yy HSX) hbr _).set hbr _).set hbr _).set hbr _,aE (aE (aE (aE (yy HGX) (Nat.le_refl _) _) (Nat.le_refl _) _) (Nat.le_refl _) _) (Nat.le_refl _) _⟩
   ·have hkb:(k != 0)=true:=by simpa using hk
    have hkc:(k==0)=false:=by simpa using hk
    have hbr:b<w.heap.size:=hlt;obtain⟨cr0,cr1,cr2,cr3⟩:=yy Vr7;obtain⟨fr0,fr1,fr2,fr3⟩:=yy Fr7;clear Vx;go_wp2_with fail;obtain⟨u0,u1,u2,u3⟩:=(lK (yy Vr7) 1 0 0 0).alloc (.cells #[J Z p,J Z q,J Z r,J Z s,J Z k] 108);exact bodyPost_ret (v:=.agg #[J Z 1,J Z 0,J Z 0,J Z 0]) (by simp[results,Tryz.results45,go_sem,u0,u1,u2,u3]) rfl ⟨_,_,_,_,rfl,((((bn.set (yy HS7w) hbr _).set hbr _).set hbr _).set hbr _).allocs _,ay (aE (aE (aE (aE (yy HG7) (Nat.le_refl _) _) (Nat.le_refl _) _) (Nat.le_refl _) _) (Nat.le_refl _) _) (World.grownBy_alloc _ _ (some b))⟩
  ·go_wp2_with fail;refine(dV b 11 _ (yy HS2) (by omega)).mono ?_;rintro e w3 ⟨z0,rfl,_,_,_,hS,hg⟩;have HS3:=yz hS;replace Fr:=yz ((yy Fr).grown (yy Vr).lt hg (by omega));replace Vr:=yz ((yy Vr).grown hg (by omega));replace HG:=yz (ay (yy HG) hg);clear hS hg HS2;go_wp2_with fail;refine(dV b 11 _ (yy HS3) (by omega)).mono ?_;rintro e w4 ⟨z1,rfl,_,_,_,hS,hg⟩;have HS4:=yz hS;replace Fr:=yz ((yy Fr).grown (yy Vr).lt hg (by omega));replace Vr:=yz ((yy Vr).grown hg (by omega));replace HG:=yz (ay (yy HG) hg);clear hS hg HS3;go_wp2_with fail;refine(dV b 11 _ (yy HS4) (by omega)).mono ?_;rintro e w5 ⟨z2,rfl,_,_,_,hS,hg⟩;have HS5:=yz hS;replace Fr:=yz ((yy Fr).grown (yy Vr).lt hg (by omega));replace Vr:=yz ((yy Vr).grown hg (by omega));replace HG:=yz (ay (yy HG) hg);clear hS hg HS4;go_wp2_with fail;refine(dV b 11 _ (yy HS5) (by omega)).mono ?_;rintro e w6 ⟨z3,rfl,_,_,_,hS,hg⟩;have HS6:=yz hS;replace Fr:=yz ((yy Fr).grown (yy Vr).lt hg (by omega));replace Vr:=yz ((yy Vr).grown hg (by omega));replace HG:=yz (ay (yy HG) hg);clear hS hg HS5;go_wp2_with fail;refine(jg _ _ _ _ _).mono ?_;rintro e w7 ⟨p,q,r,s,k,rfl,hx⟩;have Vr7:=yz ((yy Vr).kept (yy Vr).lt hx);have Fr7:=yz ((yy Fr).kept (yy Vr).lt hx);have HS7w:=yz ((yy HS6).below hx);have HG7:=yz (ay (yy HG) (gN hx (some b)));have HLT:w.heap.size<w7.heap.size:=((yy Vr).kept (yy Vr).lt hx).lt;replace Fr:=yz (((yy Fr).kept (yy Vr).lt hx).kept ((yy Vr).kept (yy Vr).lt hx).lt (an w7 (.cells #[J Z p,J Z q,J Z r,J Z s,J Z k] 108)));replace Vr:=yz (((yy Vr).kept (yy Vr).lt hx).alloc (.cells #[J Z p,J Z q,J Z r,J Z s,J Z k] 108));have Vx:=yz (dl w7 p q r s k 108);have HS7:=yz ((((yy HS6).below hx)).allocs (.cells #[J Z p,J Z q,J Z r,J Z s,J Z k] 108));replace HG:=yz (ay (ay (yy HG) (gN hx (some b))) (World.grownBy_alloc w7 (.cells #[J Z p,J Z q,J Z r,J Z s,J Z k] 108) (some b)));have hbx:b<w7.heap.size:=Nat.lt_of_lt_of_le (yy HS6).lt hx.size;clear hx HS6;have vx:=yy Vx;obtain⟨cx0,cx1,cx2,cx3,cx4⟩:=vx;by_cases hk:k=0
   ·subst hk;go_wp2_with fail;clear cx0 cx1 cx2 cx3 cx4;refine(gt b 20 _ (yy HS7) (by omega)).mono ?_;rintro e w8 ⟨y3,rfl,hS,hg⟩;replace Vx:=yz ((yy Vx).grown hg (by omega));have HS8:=yz hS;replace Fr:=yz ((yy Fr).grown (yy Vr).lt hg (by omega));replace Vr:=yz ((yy Vr).grown hg (by omega));replace HG:=yz (ay (yy HG) hg);clear hS hg HS7;have hlt8:w.heap.size<w7.heap.size:=HLT;have vx:=yy Vx;obtain⟨cx0,cx1,cx2,cx3,cx4⟩:=vx;obtain⟨cr0,cr1,cr2,cr3⟩:=yy Vr;obtain⟨fr0,fr1,fr2,fr3⟩:=yy Fr;have hbr:b<w.heap.size:=hlt;cases y3
    ·have HSX:=HS8;go_wp2_with fail;exact bodyPost_ret (v:=.agg #[J Z p,J Z q,J Z r,J Z s]) (by simp[results,Tryz.results45,go_sem,cr0,cr1,cr2,cr3]) rfl ⟨_,_,_,_,rfl,(((bn.set (yy HSX) hbr _).set hbr _).set hbr _).set hbr _,aE (aE (aE (aE (yy HG) (Nat.le_refl _) _) (Nat.le_refl _) _) (Nat.le_refl _) _) (Nat.le_refl _) _⟩
    ·have hne1:w.heap.size≠w7.heap.size:=by have:=hlt8;omega
     have hne2:w7.heap.size≠w.heap.size:=Ne.symm hne1;have HC:Hid (w8.cell? ⟨w7.heap.size,0,none⟩=some (J Z p)∧w8.cell? ⟨w7.heap.size,1,none⟩=some (J Z q)∧w8.cell? ⟨w7.heap.size,2,none⟩=some (J Z r)):=yz ⟨cx0,cx1,cx2⟩;clear cx0 cx1 cx2 cx3 cx4 cr0 cr1 cr2 cr3 fr0 fr1 fr2 fr3;go_wp2_with fail;have cN:Hid (Calls Tryz.prog 25 #[.pointer (some ⟨b,0,none⟩),J Z 4] w8.drew fun e w'=>∃z:Int,e=.returned (J Z z)∧dN w' w7.heap.size p q r s 0∧aJ w' w.heap.size 0 0 0 0∧dx w' w.heap.size∧Hid (bn b w')∧Hid (w.grownBy w' (some b))):=yz ((dV b 4 _ (yy HS8).drewT (by omega)).mono fun e w' ⟨z,he,_,_,_,hSn,hgn⟩=>⟨z,he,(show dN w8.drew w7.heap.size p q r s 0 from yy Vx).grown hgn (by omega),(show aJ w8.drew w.heap.size 0 0 0 0 from yy Vr).grown hgn (by omega),(show dx w8.drew w.heap.size from yy Fr).grown (yy Vr).lt hgn (by omega),yz hSn,yz (ay (lm (yy HG)) hgn)⟩);go_region_held (fun w'=>w'.cell? ⟨w7.heap.size,0,none⟩=some (J Z p)∧w'.cell? ⟨w7.heap.size,1,none⟩=some (J Z q)∧w'.cell? ⟨w7.heap.size,2,none⟩=some (J Z r)) (first | (with_reducible exact(yy HC)) | exact(yy HC) | (with_reducible exact⟨q0,q1,q2⟩) | simp[go_sem,q0,q1,q2]) ((go_at_call 25;refine(yy cN).mono ?_;rintro e wn ⟨zz,rfl,⟨q0,q1,q2,q3,q4⟩,⟨cr0,cr1,cr2,cr3⟩,⟨fr0,fr1,fr2,fr3⟩,HSX,HGX⟩))
     all_goals go_wp2
     all_goals exact bodyPost_ret (v:=.agg #[J Z p,J Z q,J Z r,J Z (IntKind.i64.wrap (6-IntKind.i64.wrap (2*zz)))]) (by simp[results,Tryz.results45,go_sem,cr0,cr1,cr2,cr3]) rfl ⟨_,_,_,_,rfl,(((bn.set (yy HSX) hbr _).set hbr _).set hbr _).set hbr _,aE (aE (aE (aE (yy HGX) (Nat.le_refl _) _) (Nat.le_refl _) _) (Nat.le_refl _) _) (Nat.le_refl _) _⟩
   ·have hkb:(k != 0)=true:=by simpa using hk
    have hkc:(k==0)=false:=by simpa using hk
    have hbr:b<w.heap.size:=hlt;obtain⟨cr0,cr1,cr2,cr3⟩:=yy Vr7;obtain⟨fr0,fr1,fr2,fr3⟩:=yy Fr7;clear Vx;go_wp2_with fail;obtain⟨u0,u1,u2,u3⟩:=(lK (yy Vr7) 1 0 0 0).alloc (.cells #[J Z p,J Z q,J Z r,J Z s,J Z k] 108);exact bodyPost_ret (v:=.agg #[J Z 1,J Z 0,J Z 0,J Z 0]) (by simp[results,Tryz.results45,go_sem,u0,u1,u2,u3]) rfl ⟨_,_,_,_,rfl,((((bn.set (yy HS7w) hbr _).set hbr _).set hbr _).set hbr _).allocs _,ay (aE (aE (aE (aE (yy HG7) (Nat.le_refl _) _) (Nat.le_refl _) _) (Nat.le_refl _) _) (Nat.le_refl _) _) (World.grownBy_alloc _ _ (some b))⟩
 ·go_wp2_with fail;refine(gt b 10 _ (yy HS1) (by omega)).mono ?_;rintro e w2 ⟨y2,rfl,hS,hg⟩;have HS2:=yz hS;replace Fr:=yz ((yy Fr).grown (yy Vr).lt hg (by omega));replace Vr:=yz ((yy Vr).grown hg (by omega));replace HG:=yz (ay (yy HG) hg);clear hS hg HS1;cases y2
  ·go_wp2_with fail;refine(dV b 5 _ (yy HS2) (by omega)).mono ?_;rintro e w3 ⟨z0,rfl,_,_,_,hS,hg⟩;have HS3:=yz hS;replace Fr:=yz ((yy Fr).grown (yy Vr).lt hg (by omega));replace Vr:=yz ((yy Vr).grown hg (by omega));replace HG:=yz (ay (yy HG) hg);clear hS hg HS2;go_wp2_with fail;refine(dV b 5 _ (yy HS3) (by omega)).mono ?_;rintro e w4 ⟨z1,rfl,_,_,_,hS,hg⟩;have HS4:=yz hS;replace Fr:=yz ((yy Fr).grown (yy Vr).lt hg (by omega));replace Vr:=yz ((yy Vr).grown hg (by omega));replace HG:=yz (ay (yy HG) hg);clear hS hg HS3;go_wp2_with fail;refine(dV b 5 _ (yy HS4) (by omega)).mono ?_;rintro e w5 ⟨z2,rfl,_,_,_,hS,hg⟩;have HS5:=yz hS;replace Fr:=yz ((yy Fr).grown (yy Vr).lt hg (by omega));replace Vr:=yz ((yy Vr).grown hg (by omega));replace HG:=yz (ay (yy HG) hg);clear hS hg HS4;go_wp2_with fail;refine(dV b 5 _ (yy HS5) (by omega)).mono ?_;rintro e w6 ⟨z3,rfl,_,_,_,hS,hg⟩;have HS6:=yz hS;replace Fr:=yz ((yy Fr).grown (yy Vr).lt hg (by omega));replace Vr:=yz ((yy Vr).grown hg (by omega));replace HG:=yz (ay (yy HG) hg);clear hS hg HS5;go_wp2_with fail;refine(jg _ _ _ _ _).mono ?_;rintro e w7 ⟨p,q,r,s,k,rfl,hx⟩;have Vr7:=yz ((yy Vr).kept (yy Vr).lt hx);have Fr7:=yz ((yy Fr).kept (yy Vr).lt hx);have HS7w:=yz ((yy HS6).below hx);have HG7:=yz (ay (yy HG) (gN hx (some b)));have HLT:w.heap.size<w7.heap.size:=((yy Vr).kept (yy Vr).lt hx).lt;replace Fr:=yz (((yy Fr).kept (yy Vr).lt hx).kept ((yy Vr).kept (yy Vr).lt hx).lt (an w7 (.cells #[J Z p,J Z q,J Z r,J Z s,J Z k] 108)));replace Vr:=yz (((yy Vr).kept (yy Vr).lt hx).alloc (.cells #[J Z p,J Z q,J Z r,J Z s,J Z k] 108));have Vx:=yz (dl w7 p q r s k 108);have HS7:=yz ((((yy HS6).below hx)).allocs (.cells #[J Z p,J Z q,J Z r,J Z s,J Z k] 108));replace HG:=yz (ay (ay (yy HG) (gN hx (some b))) (World.grownBy_alloc w7 (.cells #[J Z p,J Z q,J Z r,J Z s,J Z k] 108) (some b)));have hbx:b<w7.heap.size:=Nat.lt_of_lt_of_le (yy HS6).lt hx.size;clear hx HS6;have vx:=yy Vx;obtain⟨cx0,cx1,cx2,cx3,cx4⟩:=vx;by_cases hk:k=0
   ·subst hk;go_wp2_with fail;clear cx0 cx1 cx2 cx3 cx4;refine(gt b 20 _ (yy HS7) (by omega)).mono ?_;rintro e w8 ⟨y3,rfl,hS,hg⟩;replace Vx:=yz ((yy Vx).grown hg (by omega));have HS8:=yz hS;replace Fr:=yz ((yy Fr).grown (yy Vr).lt hg (by omega));replace Vr:=yz ((yy Vr).grown hg (by omega));replace HG:=yz (ay (yy HG) hg);clear hS hg HS7;have hlt8:w.heap.size<w7.heap.size:=HLT;have vx:=yy Vx;obtain⟨cx0,cx1,cx2,cx3,cx4⟩:=vx;obtain⟨cr0,cr1,cr2,cr3⟩:=yy Vr;obtain⟨fr0,fr1,fr2,fr3⟩:=yy Fr;have hbr:b<w.heap.size:=hlt;cases y3
    ·have HSX:=HS8;go_wp2_with fail;exact bodyPost_ret (v:=.agg #[J Z p,J Z q,J Z r,J Z s]) (by simp[results,Tryz.results45,go_sem,cr0,cr1,cr2,cr3]) rfl ⟨_,_,_,_,rfl,(((bn.set (yy HSX) hbr _).set hbr _).set hbr _).set hbr _,aE (aE (aE (aE (yy HG) (Nat.le_refl _) _) (Nat.le_refl _) _) (Nat.le_refl _) _) (Nat.le_refl _) _⟩
    ·have hne1:w.heap.size≠w7.heap.size:=by have:=hlt8;omega
     have hne2:w7.heap.size≠w.heap.size:=Ne.symm hne1;have HC:Hid (w8.cell? ⟨w7.heap.size,0,none⟩=some (J Z p)∧w8.cell? ⟨w7.heap.size,1,none⟩=some (J Z q)∧w8.cell? ⟨w7.heap.size,2,none⟩=some (J Z r)):=yz ⟨cx0,cx1,cx2⟩;clear cx0 cx1 cx2 cx3 cx4 cr0 cr1 cr2 cr3 fr0 fr1 fr2 fr3;go_wp2_with fail;have cN:Hid (Calls Tryz.prog 25 #[.pointer (some ⟨b,0,none⟩),J Z 4] w8.drew fun e w'=>∃z:Int,e=.returned (J Z z)∧dN w' w7.heap.size p q r s 0∧aJ w' w.heap.size 0 0 0 0∧dx w' w.heap.size∧Hid (bn b w')∧Hid (w.grownBy w' (some b))):=yz ((dV b 4 _ (yy HS8).drewT (by omega)).mono fun e w' ⟨z,he,_,_,_,hSn,hgn⟩=>⟨z,he,(show dN w8.drew w7.heap.size p q r s 0 from yy Vx).grown hgn (by omega),(show aJ w8.drew w.heap.size 0 0 0 0 from yy Vr).grown hgn (by omega),(show dx w8.drew w.heap.size from yy Fr).grown (yy Vr).lt hgn (by omega),yz hSn,yz (ay (lm (yy HG)) hgn)⟩);go_region_held (fun w'=>w'.cell? ⟨w7.heap.size,0,none⟩=some (J Z p)∧w'.cell? ⟨w7.heap.size,1,none⟩=some (J Z q)∧w'.cell? ⟨w7.heap.size,2,none⟩=some (J Z r)) (first | (with_reducible exact(yy HC)) | exact(yy HC) | (with_reducible exact⟨q0,q1,q2⟩) | simp[go_sem,q0,q1,q2]) ((go_at_call 25;refine(yy cN).mono ?_;rintro e wn ⟨zz,rfl,⟨q0,q1,q2,q3,q4⟩,⟨cr0,cr1,cr2,cr3⟩,⟨fr0,fr1,fr2,fr3⟩,HSX,HGX⟩))
     all_goals go_wp2
     all_goals exact bodyPost_ret (v:=.agg #[J Z p,J Z q,J Z r,J Z (IntKind.i64.wrap (6-IntKind.i64.wrap (2*zz)))]) (by simp[results,Tryz.results45,go_sem,cr0,cr1,cr2,cr3]) rfl ⟨_,_,_,_,rfl,(((bn.set (yy HSX) hbr _).set hbr _).set hbr _).set hbr _,aE (aE (aE (aE (yy HGX) (Nat.le_refl _) _) (Nat.le_refl _) _) (Nat.le_refl _) _) (Nat.le_refl _) _⟩
   ·have hkb:(k != 0)=true:=by simpa using hk
    have hkc:(k==0)=false:=by simpa using hk
    have hbr:b<w.heap.size:=hlt;obtain⟨cr0,cr1,cr2,cr3⟩:=yy Vr7;obtain⟨fr0,fr1,fr2,fr3⟩:=yy Fr7;clear Vx;go_wp2_with fail;obtain⟨u0,u1,u2,u3⟩:=(lK (yy Vr7) 1 0 0 0).alloc (.cells #[J Z p,J Z q,J Z r,J Z s,J Z k] 108);exact bodyPost_ret (v:=.agg #[J Z 1,J Z 0,J Z 0,J Z 0]) (by simp[results,Tryz.results45,go_sem,u0,u1,u2,u3]) rfl ⟨_,_,_,_,rfl,((((bn.set (yy HS7w) hbr _).set hbr _).set hbr _).set hbr _).allocs _,ay (aE (aE (aE (aE (yy HG7) (Nat.le_refl _) _) (Nat.le_refl _) _) (Nat.le_refl _) _) (Nat.le_refl _) _) (World.grownBy_alloc _ _ (some b))⟩
  ·go_wp2_with fail;refine(dV b 11 _ (yy HS2) (by omega)).mono ?_;rintro e w3 ⟨z0,rfl,_,_,_,hS,hg⟩;have HS3:=yz hS;replace Fr:=yz ((yy Fr).grown (yy Vr).lt hg (by omega));replace Vr:=yz ((yy Vr).grown hg (by omega));replace HG:=yz (ay (yy HG) hg);clear hS hg HS2;go_wp2_with fail;refine(dV b 11 _ (yy HS3) (by omega)).mono ?_;rintro e w4 ⟨z1,rfl,_,_,_,hS,hg⟩;have HS4:=yz hS;replace Fr:=yz ((yy Fr).grown (yy Vr).lt hg (by omega));replace Vr:=yz ((yy Vr).grown hg (by omega));replace HG:=yz (ay (yy HG) hg);clear hS hg HS3;go_wp2_with fail;refine(dV b 11 _ (yy HS4) (by omega)).mono ?_;rintro e w5 ⟨z2,rfl,_,_,_,hS,hg⟩;have HS5:=yz hS;replace Fr:=yz ((yy Fr).grown (yy Vr).lt hg (by omega));replace Vr:=yz ((yy Vr).grown hg (by omega));replace HG:=yz (ay (yy HG) hg);clear hS hg HS4;go_wp2_with fail;refine(dV b 11 _ (yy HS5) (by omega)).mono ?_;rintro e w6 ⟨z3,rfl,_,_,_,hS,hg⟩;have HS6:=yz hS;replace Fr:=yz ((yy Fr).grown (yy Vr).lt hg (by omega));replace Vr:=yz ((yy Vr).grown hg (by omega));replace HG:=yz (ay (yy HG) hg);clear hS hg HS5;go_wp2_with fail;refine(jg _ _ _ _ _).mono ?_;rintro e w7 ⟨p,q,r,s,k,rfl,hx⟩;have Vr7:=yz ((yy Vr).kept (yy Vr).lt hx);have Fr7:=yz ((yy Fr).kept (yy Vr).lt hx);have HS7w:=yz ((yy HS6).below hx);have HG7:=yz (ay (yy HG) (gN hx (some b)));have HLT:w.heap.size<w7.heap.size:=((yy Vr).kept (yy Vr).lt hx).lt;replace Fr:=yz (((yy Fr).kept (yy Vr).lt hx).kept ((yy Vr).kept (yy Vr).lt hx).lt (an w7 (.cells #[J Z p,J Z q,J Z r,J Z s,J Z k] 108)));replace Vr:=yz (((yy Vr).kept (yy Vr).lt hx).alloc (.cells #[J Z p,J Z q,J Z r,J Z s,J Z k] 108));have Vx:=yz (dl w7 p q r s k 108);have HS7:=yz ((((yy HS6).below hx)).allocs (.cells #[J Z p,J Z q,J Z r,J Z s,J Z k] 108));replace HG:=yz (ay (ay (yy HG) (gN hx (some b))) (World.grownBy_alloc w7 (.cells #[J Z p,J Z q,J Z r,J Z s,J Z k] 108) (some b)));have hbx:b<w7.heap.size:=Nat.lt_of_lt_of_le (yy HS6).lt hx.size;clear hx HS6;have vx:=yy Vx;obtain⟨cx0,cx1,cx2,cx3,cx4⟩:=vx;by_cases hk:k=0
   ·subst hk;go_wp2_with fail;clear cx0 cx1 cx2 cx3 cx4;refine(gt b 20 _ (yy HS7) (by omega)).mono ?_;rintro e w8 ⟨y3,rfl,hS,hg⟩;replace Vx:=yz ((yy Vx).grown hg (by omega));have HS8:=yz hS;replace Fr:=yz ((yy Fr).grown (yy Vr).lt hg (by omega));replace Vr:=yz ((yy Vr).grown hg (by omega));replace HG:=yz (ay (yy HG) hg);clear hS hg HS7;have hlt8:w.heap.size<w7.heap.size:=HLT;have vx:=yy Vx;obtain⟨cx0,cx1,cx2,cx3,cx4⟩:=vx;obtain⟨cr0,cr1,cr2,cr3⟩:=yy Vr;obtain⟨fr0,fr1,fr2,fr3⟩:=yy Fr;have hbr:b<w.heap.size:=hlt;cases y3
    ·have HSX:=HS8;go_wp2_with fail;exact bodyPost_ret (v:=.agg #[J Z p,J Z q,J Z r,J Z s]) (by simp[results,Tryz.results45,go_sem,cr0,cr1,cr2,cr3]) rfl ⟨_,_,_,_,rfl,(((bn.set (yy HSX) hbr _).set hbr _).set hbr _).set hbr _,aE (aE (aE (aE (yy HG) (Nat.le_refl _) _) (Nat.le_refl _) _) (Nat.le_refl _) _) (Nat.le_refl _) _⟩
    ·have hne1:w.heap.size≠w7.heap.size:=by have:=hlt8;omega
     have hne2:w7.heap.size≠w.heap.size:=Ne.symm hne1;have HC:Hid (w8.cell? ⟨w7.heap.size,0,none⟩=some (J Z p)∧w8.cell? ⟨w7.heap.size,1,none⟩=some (J Z q)∧w8.cell? ⟨w7.heap.size,2,none⟩=some (J Z r)):=yz ⟨cx0,cx1,cx2⟩;clear cx0 cx1 cx2 cx3 cx4 cr0 cr1 cr2 cr3 fr0 fr1 fr2 fr3;go_wp2_with fail;have cN:Hid (Calls Tryz.prog 25 #[.pointer (some ⟨b,0,none⟩),J Z 4] w8.drew fun e w'=>∃z:Int,e=.returned (J Z z)∧dN w' w7.heap.size p q r s 0∧aJ w' w.heap.size 0 0 0 0∧dx w' w.heap.size∧Hid (bn b w')∧Hid (w.grownBy w' (some b))):=yz ((dV b 4 _ (yy HS8).drewT (by omega)).mono fun e w' ⟨z,he,_,_,_,hSn,hgn⟩=>⟨z,he,(show dN w8.drew w7.heap.size p q r s 0 from yy Vx).grown hgn (by omega),(show aJ w8.drew w.heap.size 0 0 0 0 from yy Vr).grown hgn (by omega),(show dx w8.drew w.heap.size from yy Fr).grown (yy Vr).lt hgn (by omega),yz hSn,yz (ay (lm (yy HG)) hgn)⟩);go_region_held (fun w'=>w'.cell? ⟨w7.heap.size,0,none⟩=some (J Z p)∧w'.cell? ⟨w7.heap.size,1,none⟩=some (J Z q)∧w'.cell? ⟨w7.heap.size,2,none⟩=some (J Z r)) (first | (with_reducible exact(yy HC)) | exact(yy HC) | (with_reducible exact⟨q0,q1,q2⟩) | simp[go_sem,q0,q1,q2]) ((go_at_call 25;refine(yy cN).mono ?_;rintro e wn ⟨zz,rfl,⟨q0,q1,q2,q3,q4⟩,⟨cr0,cr1,cr2,cr3⟩,⟨fr0,fr1,fr2,fr3⟩,HSX,HGX⟩))
     all_goals go_wp2
     all_goals exact bodyPost_ret (v:=.agg #[J Z p,J Z q,J Z r,J Z (IntKind.i64.wrap (6-IntKind.i64.wrap (2*zz)))]) (by simp[results,Tryz.results45,go_sem,cr0,cr1,cr2,cr3]) rfl ⟨_,_,_,_,rfl,(((bn.set (yy HSX) hbr _).set hbr _).set hbr _).set hbr _,aE (aE (aE (aE (yy HGX) (Nat.le_refl _) _) (Nat.le_refl _) _) (Nat.le_refl _) _) (Nat.le_refl _) _⟩
   ·have hkb:(k != 0)=true:=by simpa using hk
    have hkc:(k==0)=false:=by simpa using hk
    have hbr:b<w.heap.size:=hlt;obtain⟨cr0,cr1,cr2,cr3⟩:=yy Vr7;obtain⟨fr0,fr1,fr2,fr3⟩:=yy Fr7;clear Vx;go_wp2_with fail;obtain⟨u0,u1,u2,u3⟩:=(lK (yy Vr7) 1 0 0 0).alloc (.cells #[J Z p,J Z q,J Z r,J Z s,J Z k] 108);exact bodyPost_ret (v:=.agg #[J Z 1,J Z 0,J Z 0,J Z 0]) (by simp[results,Tryz.results45,go_sem,u0,u1,u2,u3]) rfl ⟨_,_,_,_,rfl,((((bn.set (yy HS7w) hbr _).set hbr _).set hbr _).set hbr _).allocs _,ay (aE (aE (aE (aE (yy HG7) (Nat.le_refl _) _) (Nat.le_refl _) _) (Nat.le_refl _) _) (Nat.le_refl _) _) (World.grownBy_alloc _ _ (some b))⟩
end
section
open Go.RowKit
variable {w w':World}
theorem Row.upT{a:Option Addr}{len B B':Nat}(h:Row w a len B)(hB:B≤B')(hk:∀k,k<B→w'.heap[k]? = w.heap[k]?):Row w' a len B':=by
 have h':=h.kept hk;rcases h' with h | ⟨bx,ox,rfl,hb,hz⟩
 ·exact .inl h
 ·exact .inr ⟨bx,ox,rfl,Nat.lt_of_lt_of_le hb hB,hz⟩
theorem jP{w0:World}{b:Nat}(h:Below w0.heap.size w0 w)(hg:w.grownBy w' (some b))(hb:w0.heap.size≤b):Below w0.heap.size w0 w':=h.grown hg h.size (fun k e=>by have:=Option.some.inj e;omega)
end
section
open Go.RowKit
theorem nB(c:UInt8):(ByteArray.mk #[c]).size=1:=rfl
theorem gV(w:World)(n:Nat)(row:Option Nat):w.grownBy (w.drewN n) row:=⟨rfl,rfl,rfl,Nat.le_refl _,fun _ _ _=>rfl⟩
variable {w:World}
theorem bn.drewNs{b:Nat}(h:bn b w)(n:Nat):bn b (w.drewN n):=h.kept (gV w n none) (fun _ e=>by cases e)
theorem cu{w':World}{b c k:Nat}{v:Value}(h:w.cell? ⟨b,k,none⟩=some v)(hg:w.grownBy w' (some c))(hne:b≠c):w'.cell? ⟨b,k,none⟩=some v:=by
 have hb:b<w.heap.size:=World.block_lt_of_cell? w _ h;rw[show w'.cell? ⟨b,k,none⟩=w.cell? ⟨b,k,none⟩ from by unfold World.cell?;rw[hg.block b hb (fun e=>hne (by cases e;rfl))]];exact h
theorem zx(b:Nat)(t:ByteArray)(w:World)(hS:bn b w)(ht:t.size≤10000):
  Calls Tryz.prog 16 #[.pointer (some ⟨b,0,none⟩),.string t] w fun e w'=>∃r:ByteArray,e=.returned (.string r)∧r.size≤20000∧bn b w'∧w.grownBy w' (some b):=by
 have HS:=yz hS;clear hS;go_enter Tryz.func16,Tryz.ntmps16;go_wp2_with fail;refine(dV b _ _ (yy HS) (by omega)).mono ?_;rintro e w1 ⟨z,rfl,z0,z1,z2,hS1,hg⟩;have HS1:=yz hS1;clear hS1 HS;go_wp2_with fail;refine(dV b 17 _ (yy HS1) (by omega)).mono ?_;rintro e w2 ⟨y,rfl,y0,y1,_,hS2,hg2⟩;have hy17:y<17:=y1 (by omega);obtain⟨j,rfl⟩:∃j:Nat,y=(j:Int):=⟨y.toNat,by omega⟩
 have hj:j<17:=by omega
 have HS2:=yz hS2;have hg':=ay hg hg2;clear hS2 HS1 y1 hg hg2;go_wp2_with fail;rw[sX];generalize (ByteArray.mk #[32,10,48,97,45,110,44,58,93,255,40,120,126,49,128,225,59])[j]'_=c;obtain⟨k,rfl⟩:∃k:Nat,z=(k:Int):=⟨z.toNat,by omega⟩
 have hk:k≤t.size:=by
  by_cases h1:(t.size:Int)+1≤1
  ·have:=z2 h1;omega
  ·have:=z1 (by omega);omega
 have hS3:=(yy HS2).allocs (.cells #[.int .u8 (c.toNat:Int)] 5);have hg3:=ff hg' (.cells #[.int .u8 (c.toNat:Int)] 5);have HS3:=yz hS3;have HG3:=yz hg3;clear hS3 HS2 hg' hg3 z1 z2 z0 hj hy17 y0;have k0:(0:Int)≤(k:Int):=by omega
 have k1:(k:Int)≤(t.size:Int):=by omega
 by_cases he:k=t.size
 ·have he':(k:Int)=(t.size:Int):=by omega
  go_wp2_with fail;go_quiet (fail)
  go_wp2;exact bodyPost_ret (v:=.string (t ++ ⟨#[c]⟩)) (by simp[results,Tryz.results16,go_sem]) rfl ⟨_,rfl,by simp[ByteArray.size_append,ByteArray.size_extract,nB];omega,(yy HS3).drewNs _,ay (yy HG3) (gV _ _ _)⟩
 ·have he':¬(k:Int)=(t.size:Int):=by omega
  go_wp2_with fail;refine(gt b 3 _ (yy HS3) (by omega)).mono ?_;rintro e w4 ⟨y,rfl,hS4,hg4⟩;have HS4:=yz hS4;have HG4:=yz (ay (yy HG3) hg4);clear HS3 HG3 hS4 hg4;cases y
  ·go_wp2_with fail;refine(gt b 2 _ (yy HS4) (by omega)).mono ?_;rintro e w5 ⟨y,rfl,hS5,hg5⟩;have HS5:=yz hS5;have HG5:=yz (ay (yy HG4) hg5);clear HS4 HG4 hS5 hg5;have k2:(k:Int)+1≤(t.size:Int):=by omega
   have k3:(0:Int)≤(k:Int)+1:=by omega
   cases y
   ·go_wp2_with fail;go_quiet (fail)
    go_wp2;exact bodyPost_ret (v:=.string (t.extract 0 k ++ ⟨#[c]⟩ ++ t.extract (k+1) t.size)) (by simp[results,Tryz.results16,go_sem]) rfl ⟨_,rfl,by simp[ByteArray.size_append,ByteArray.size_extract,nB];omega,(yy HS5).drewNs _,ay (yy HG5) (gV _ _ _)⟩
   ·go_wp2_with fail;go_quiet (fail)
    go_wp2;exact bodyPost_ret (v:=.string (t.extract 0 k ++ t.extract (k+1) t.size)) (by simp[results,Tryz.results16,go_sem]) rfl ⟨_,rfl,by simp[ByteArray.size_append,ByteArray.size_extract,nB];omega,(yy HS5).drewNs _,ay (yy HG5) (gV _ _ _)⟩
  ·go_wp2_with fail;go_quiet (fail)
   go_wp2;exact bodyPost_ret (v:=.string (t.extract 0 k ++ ⟨#[c]⟩ ++ t.extract k t.size)) (by simp[results,Tryz.results16,go_sem]) rfl ⟨_,rfl,by simp[ByteArray.size_append,ByteArray.size_extract,nB];omega,(yy HS4).drewNs _,ay (yy HG4) (gV _ _ _)⟩
end
end Go.Proofs.YtdchjcadhlkpfaaGreatDoor
