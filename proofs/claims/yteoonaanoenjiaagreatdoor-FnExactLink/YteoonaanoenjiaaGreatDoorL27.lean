/- Several texts in one: CrC, CrD, CrE, CrF. -/
import Derived.Test.YteoonaanoenjiaaGreatDoorL7
import Derived.Test.YteoonaanoenjiaaGreatDoorL15
namespace Go.Proofs.YteoonaanoenjiaaGreatDoor
set_option linter.unusedVariables false
set_option linter.unusedSimpArgs false
set_option maxRecDepth 100000
set_option maxHeartbeats 8000000
section
open Go.Value renaming int → J
open Go.IntKind renaming i64 → Z
open Go.RowKit Go.Sort
def pY(v:D3):List Value:=[J Z v.1,J Z v.2.1,J Z v.2.2]
def gn(S:List D3):List Value:=S.flatMap pY
theorem kh(L:List D3)(x:D3):gn (L ++ [x])=gn L ++ pY x:=by unfold gn;rw[List.flatMap_append];simp
def gW(t:ByteArray)(q:Nat):Option (List D3×Nat):=match aO t q with
 | none=>none
 | some (m,q2)=>if 0≤m∧m≤6 then da t q2 m.toNat else none
theorem lu{s:ByteArray}{p:Nat}:∀ {m k:Nat},da s p k=none→k≤m→da s p m=none
 | 0,k,h,hk=>by
  have:k=0:=by omega
  subst this;exact h
 | m+1,k,h,hk=>by
  by_cases e:k=m+1
  ·rw[←e];exact h
  ·unfold da;rw[lu h (show k≤m by omega)]
theorem uN:(Tryz.prog.info? 111).map (fun i=>(i.zero,i.size,i.bytes))=some (some (.agg #[J Z 0,J Z 0,J Z 0]),3,24):=by kernel_rfl
variable {xs:List Value} {b m:Nat} {t:TypeId} {v:Value} {w w' w1 w2:World}
theorem CW{row:Option Nat}(h1:w.grownBy w1 row)(h2:w1.grownBy w2 row):w.grownBy w2 row:=
 ⟨h2.os.trans h1.os,h2.tape.trans h1.tape,h2.output.trans h1.output,Nat.le_trans h1.size h2.size,fun k hk hne=>(h2.block k (Nat.lt_of_lt_of_le hk h1.size) hne).trans (h1.block k hk hne)⟩
theorem sk{B:Nat}{n:Nat}(h:w.ownsRow B t m v n xs)(hg:w.grownBy w' (some b))(hb:b<B):w'.ownsRow B t m v n xs:=by
 refine h.kept hg ?_;cases hv:v.ownBlock with
 | none=>exact .inl rfl
 | some z=>exact .inr (fun e=>by have:=(h.lt z hv).1;have:=Option.some.inj e;omega)
theorem JV{n:Nat}(h:w.grownBy w1 (some b))(ho:w1.ownsRow w.heap.size t m v n xs)(hg:w1.grownBy w2 v.ownBlock):w.grownBy w2 (some b):=
 ⟨hg.os.trans h.os,hg.tape.trans h.tape,hg.output.trans h.output,Nat.le_trans h.size hg.size,fun k hk hne=>(hg.block k (Nat.lt_of_lt_of_le hk h.size) (fun e=>by have:=(ho.lt k e.symm).1;omega)).trans (h.block k hk hne)⟩
theorem Hn{row:Option Nat}(h:w.grownBy w1 row)(o:Obj):w.grownBy (w1.alloc o) row:=
 ⟨h.os,h.tape,h.output,Nat.le_trans h.size (ak w1 o).size,fun k hk hne=>((ak w1 o).block k (Nat.lt_of_lt_of_le hk h.size)).trans (h.block k hk hne)⟩
theorem la{p:Addr}(h:ce p w)(hg:w.grownBy w' (some b))(hne:0≠b):ce p w':=by
 unfold ce at h ⊢;exact(World.cell?_of_block (hg.block _ (World.block_lt_of_cell? w _ h) (fun e=>hne (Option.some.inj e)))).trans h
theorem qC(w:World)(s1 s2 s3:Int)(t:TypeId):∀(j:Nat) (u:Value),[Value.int .i64 s1,Value.int .i64 s2,Value.int .i64 s3][j]? = some u→(w.alloc (.cells #[J Z s1,J Z s2,J Z s3] t)).cell? ((⟨w.heap.size,0,none⟩:Addr).add j)=some u:=by
 intro j u hj
 match j,hj with
 | 0,hj=>simp at hj;subst hj;simp[Addr.add]
 | 1,hj=>simp at hj;subst hj;simp[Addr.add]
 | 2,hj=>simp at hj;subst hj;simp[Addr.add]
 | j+3,hj=>simp at hj
def JS(p:Addr)(b:Nat)(t:ByteArray)(w:World)(r:Option (List D3×Nat))(e:Ending)(w':World):Prop:=w.grownBy w' (some b)∧match r with
 | none=>e=ey p
 | some (S,q)=>(∃v,e=.returned v∧w'.ownsRow w.heap.size 111 3 v S.length (gn S))∧Blk w' b [.string t,J Z (q:Int)] 230
theorem DX(b:Nat)(t:ByteArray)(q:Nat)(p:Addr)(w:World)(ht:t.size≤8000)(hq:q≤8000)(hne:0≠b)(hR:Blk w b [.string t,J Z (q:Int)] 230)(hE:ce p w):
  Calls Tryz.prog 171 #[.pointer (some ⟨b,0,none⟩)] w fun e w'=>JS p b t w (gW t q) e w':=by
 have hbl:=hR.lt;cases hs:aO t q with
 | none=>
  have HO:Hid (gW t q=none):=yz (by unfold gW;rw[hs]);have cN:=yz (dC b t q p w ht hq hs hR hE);go_enter Tryz.func171,Tryz.ntmps171;go_wp2_with fail;refine(yx cN).mono ?_;rintro e w1 ⟨rfl,hx⟩;exact⟨rfl,oG hx,by rw[yx HO];rfl⟩
 | some mq=>
  obtain⟨m,q2⟩:=mq;have hq2:=(aT hs).2;have cN:=yz (cJ b t q q2 m w ht hq hs hR);by_cases hm:0≤m∧m≤6
  ·have HO:Hid (gW t q=da t q2 m.toNat):=yz (by unfold gW;rw[hs];dsimp only;rw[if_pos hm]);obtain⟨c,hc⟩:∃c:Nat,m=(c:Int):=⟨m.toNat,by omega⟩
   subst hc;rw[Int.toNat_natCast]at HO;have hc6:c≤6:=by omega
   have hm1:(c:Int)≤6:=by omega
   have HE:=yz hE;obtain⟨i0,hi,hz0,hz1,hz2⟩:=info_parts uN;clear hs hR hE hm;go_enter Tryz.func171,Tryz.ntmps171;go_wp2_with fail;refine(yx cN).mono ?_;rintro e w1 ⟨rfl,hR1,hg1⟩;have R1:=yz hR1;have G1:=yz hg1;clear hR1 hg1 cN;go_wp2_with fail;refine(ea _).mono ?_;rintro e w2 ⟨rfl,hw⟩;rw[hw];clear hw w2;go_wp2_with fail;go_loopw [4,15] (fun v i wr=>∃(k:Nat) (L:List D3) (z:Nat),k≤c∧i=J Z k∧Hid (da t q2 k=some (L,z))∧Hid (wr.ownsRow w.heap.size 111 3 v L.length (gn L))∧Hid (Blk wr b [.string t,J Z (z:Int)] 230)∧Hid (w.grownBy wr (some b))) (fun _ i _=>c-(intOf i).toNat)
   case atStart=>exact⟨0,[],q2,by omega,rfl,yz rfl,yz (World.ownsRow_nil _ _ _ _),R1,G1⟩
   case round=>
    clear R1 G1;obtain⟨k,L,z,hk,rfl,HT,HW,HR,HG⟩:=hrel;have hzs:=jQ hq2 k (yx HT);by_cases hkn:k<c
    ·have hkn2:(k:Int)<(c:Int):=by omega
     have hnone:jr t z=none→Hid (gW t q=none):=fun h3=>yz (by
      rw[yx HO];refine lu (k:=k+1) ?_ (by omega);unfold da;rw[yx HT]
      simp only[h3])
     cases h1:aO t z with
     | none=>
      have HN:=hnone (by unfold jr;rw[h1]);have cA:=yz (dC b t z p wr ht (by omega) h1 (yx HR) (la (yx HE) (yx HG) hne));clear h1 hnone;go_wp2_with fail;refine(yx cA).mono ?_;rintro e w3 ⟨rfl,hx⟩;exact⟨rfl,CW (yx HG) (oG hx),by rw[yx HN];rfl⟩
     | some y1=>
      obtain⟨x1,z1⟩:=y1;have hz1':=(aT h1).2;have cA:=yz (cJ b t z z1 x1 wr ht (by omega) h1 (yx HR));go_wp2_with fail;refine(yx cA).mono ?_;rintro e w3 ⟨rfl,hR3,hg3⟩;have R3:=yz hR3;have G3:=yz (CW (yx HG) hg3);have W3:=yz (sk (yx HW) hg3 hbl);clear hR3 hg3 cA HR HG HW;cases h2:aO t z1 with
      | none=>
       have HN:=hnone (by unfold jr;rw[h1];simp only[h2]);have cA:=yz (dC b t z1 p w3 ht (by omega) h2 (yx R3) (la (yx HE) (yx G3) hne));clear h1 h2 hnone;go_wp2_with fail;refine(yx cA).mono ?_;rintro e w4 ⟨rfl,hx⟩;exact⟨rfl,CW (yx G3) (oG hx),by rw[yx HN];rfl⟩
      | some y2=>
       obtain⟨x2,z2⟩:=y2;have hz2':=(aT h2).2;have cA:=yz (cJ b t z1 z2 x2 w3 ht (by omega) h2 (yx R3));go_wp2_with fail;refine(yx cA).mono ?_;rintro e w4 ⟨rfl,hR4,hg4⟩;have R4:=yz hR4;have G4:=yz (CW (yx G3) hg4);have W4:=yz (sk (yx W3) hg4 hbl);clear hR4 hg4 cA R3 G3 W3;cases h3:aO t z2 with
       | none=>
        have HN:=hnone (by unfold jr;rw[h1];simp only[h2,h3]);have cA:=yz (dC b t z2 p w4 ht (by omega) h3 (yx R4) (la (yx HE) (yx G4) hne));clear h1 h2 h3 hnone;go_wp2_with fail;refine(yx cA).mono ?_;rintro e w5 ⟨rfl,hx⟩;exact⟨rfl,CW (yx G4) (oG hx),by rw[yx HN];rfl⟩
       | some y3=>
        obtain⟨x3,z3⟩:=y3;have cA:=yz (cJ b t z2 z3 x3 w4 ht (by omega) h3 (yx R4))
        have HT2:Hid (da t q2 (k+1)=some (L ++ [(x1,x2,x3)],z3)):=yz (by
         unfold da;rw[yx HT];have e3:jr t z=some ((x1,x2,x3),z3):=by unfold jr;rw[h1];simp only[h2,h3]
         simp only[e3])
        clear h1 h2 h3 hnone;go_wp2_with fail;refine(yx cA).mono ?_;rintro e w5 ⟨rfl,hR5,hg5⟩;have R5:=yz hR5;have G5:=yz (CW (yx G4) hg5);have W5:=yz (sk (yx W4) hg5 hbl);clear hR5 hg5 cA R4 G4 W4;have hown:=yx W5;have hsz:=(yx G5).size;have hlen:L.length≤6:=by omega
        go_wp2_with (at_builtin;refine wpList_append_own _ rfl _ _ 42 rfl w.heap.size 111 i0 (.agg #[J Z 0,J Z 0,J Z 0]) 3 24 Tryz.underlying42 hi hz0 hz1 hz2 rfl (by decide) _ _ _ rfl (hown.alloc _) ⟨w5.heap.size,0,none⟩ 1 1 [J Z x1,J Z x2,J Z x3] rfl rfl ?c1 ?c2 ?c3 ?c4 ?c5 ?_)
        case c1=>exact qC w5 x1 x2 x3 111
        case c2=>intro u hu;simp at hu;rcases hu with rfl | rfl | rfl<;>rfl
        case c3=>unfold maxLen;omega
        case c4=>omega
        case c5=>simp;omega
        intro v' V6 hown' hgrow _;have G6:=yz (JV (Hn (yx G5) (.cells #[J Z x1,J Z x2,J Z x3] 111)) (hown.alloc (.cells #[J Z x1,J Z x2,J Z x3] 111)) hgrow)
        have hrb:Blk V6 b [.string t,J Z (z3:Int)] 230:=by
         have h1:=(yx R5).alloc (.cells #[J Z x1,J Z x2,J Z x3] 111);exact(hgrow.block b h1.lt (fun e=>by have:=((hown.alloc (.cells #[J Z x1,J Z x2,J Z x3] 111)).lt b e.symm).1;omega)).trans h1
        have R6:=yz hrb;have W6:Hid (V6.ownsRow w.heap.size 111 3 v' (L ++ [(x1,x2,x3)]).length (gn (L ++ [(x1,x2,x3)]))):=yz (by rw[kh];simpa[pY,hzs.2.2] using hown');clear hown' hown hgrow hrb R5 G5 W5;go_wp2_with fail;go_roundw
        case rel=>exact⟨k+1,_,z3,by omega,by go_num,HT2,W6,R6,G6⟩
        case measure=>simp[intOf];omega
    ·have hkn':k=c:=by omega
     subst hkn';go_wp2_with fail;go_ret;exact⟨yx HG,by rw[yx HO,yx HT];exact⟨⟨_,rfl,yx HW⟩,yx HR⟩⟩
  ·have HO:Hid (gW t q=none):=yz (by unfold gW;rw[hs];dsimp only;rw[if_neg hm]);have HE:=yz hE;have hmm:m<0∨6<m:=by omega
   clear hs hR hE hm;rcases hmm with hmm | hmm
   ·go_enter Tryz.func171,Tryz.ntmps171;go_wp2_with fail;refine(yx cN).mono ?_;rintro e w1 ⟨rfl,hR1,hg1⟩;have E1:=yz (la (yx HE) hg1 hne);have G1:=yz hg1;clear hR1 hg1 cN;have hm0:¬0≤m:=by omega
    go_wp2_with fail;refine(dZ p _ (yx E1)).mono ?_;rintro e w2 ⟨rfl,hw⟩;rw[hw];exact⟨rfl,yx G1,by rw[yx HO];rfl⟩
   ·go_enter Tryz.func171,Tryz.ntmps171;go_wp2_with fail;refine(yx cN).mono ?_;rintro e w1 ⟨rfl,hR1,hg1⟩;have E1:=yz (la (yx HE) hg1 hne);have G1:=yz hg1;clear hR1 hg1 cN;have hm0:0≤m:=by omega
    have hm6:decide (m≤6)=false:=by simp;omega
    go_wp2_with fail;refine(dZ p _ (yx E1)).mono ?_;rintro e w2 ⟨rfl,hw⟩;rw[hw];exact⟨rfl,yx G1,by rw[yx HO];rfl⟩
end
section
open Go.Value renaming int → J
open Go.IntKind renaming i64 → Y
open Go.RowKit Go.Sort
def cmV(c:Cm)(v:Value):Value:=.agg #[J Y c.kind,J Y c.A,J Y c.B,J Y c.C,J Y c.D,v,J Y c.wd,J Y c.ht,.string c.px,J Y c.lv,J Y c.fo]
def uk(p:Addr)(B:Nat)(t:ByteArray)(e:Ending)(w':World):Prop:=match aR t with
 | none=>e=ey p
 | some (c,q)=>if q=t.size then ∃v,e=.returned (cmV c v)∧w'.ownsRow B 111 3 v c.S.length (gn c.S) else e=ey p
variable {p:Addr} {t:ByteArray} {x1 x2 x3 x4:Int} {xs:List Value} {b m q q1 z z1 z2 z3:Nat} {v:Value} {w w' w2:World}
theorem gB{B:Nat}(h:aR t=none):uk p B t (ey p) w':=by unfold uk;rw[h]
theorem jq{B:Nat}{e:Ending}{c:Cm}(h:aR t=some (c,q))(h1:q=t.size→∃v,e=.returned (cmV c v)∧w'.ownsRow B 111 3 v c.S.length (gn c.S))(h2:q≠t.size→e=ey p):uk p B t e w':=by
 unfold uk;rw[h];dsimp only;by_cases hq:q=t.size
 ·rw[if_pos hq];exact h1 hq
 ·rw[if_neg hq];exact h2 hq
theorem Blk.grownK{cs:List Value}{t:TypeId}{c:Nat}(h:Blk w b cs t)(hg:w.grownBy w2 (some c))(hne:b≠c):Blk w2 b cs t:=(hg.block b h.lt (fun e=>hne (Option.some.inj e))).trans h
theorem iM{B:Nat}{w1:World}(h:Below B w w1)(hg:w1.grownBy w2 (some b))(hb:B≤b)(hB:B≤w1.heap.size):Below B w w2:=vJ h hg hB (fun g e=>by have:=Option.some.inj e;omega)
theorem eb{B B' n:Nat}{t:TypeId}(h:w.ownsRow B t m v n xs)(hb:B'≤B):w.ownsRow B' t m v n xs:=by
 obtain⟨h1,h2⟩:=h;refine⟨h1,?_⟩;rcases h2 with h2 | ⟨g,cap,cur,e,hg,r⟩
 ·exact .inl h2
 ·exact .inr ⟨g,cap,cur,e,by omega,r⟩
theorem dT{B n:Nat}{t:TypeId}(h:w.ownsRow B t m v n xs):∃a c,v=.slice a n c:=by
 rcases h.2 with ⟨h1,h0⟩ | ⟨g,cap,cur,e,_⟩
 ·exact⟨none,0,by rw[h1,h0]⟩
 ·exact⟨_,_,e⟩
theorem fC{B n:Nat}{t:TypeId}(h:w.ownsRow B t m v n xs)(hne:∀z,v.ownBlock=some z→z≠b)(o:Nat)(x:Value):(w.setCell ⟨b,o,none⟩ x).ownsRow B t m v n xs:=by
 refine h.kept (row:=some b) ⟨rfl,rfl,rfl,by simp[World.setCell],fun k hk hn=>Below.heap_setCell w ⟨b,o,none⟩ x k (fun e=>hn (by rw[e]))⟩ ?_;cases hv:v.ownBlock with
 | none=>exact .inl rfl
 | some z=>exact .inr (fun e=>hne z hv (Option.some.inj e))
theorem JC(h0:aO t 0=some (3,q1))(h:gW t q1=none):aR t=none:=by
 unfold gW at h;unfold aR;rw[h0];dsimp only;rw[if_neg (show ¬(3:Int)=2 by decide),if_pos rfl];split at h
 ·rename_i e;first | rw[e] | rfl
 ·rename_i m q2 e
  try rw[e]
  try dsimp only
  split at h
  ·rename_i hm;rw[if_pos hm,h]
  ·rename_i hm;rw[if_neg hm]
theorem JD{S:List D3}(h0:aO t 0=some (3,q1))(h:gW t q1=some (S,z)):aR t=some (⟨3,0,0,0,0,S,0,0,⟨#[]⟩,0,0⟩,z):=by
 unfold gW at h;unfold aR;rw[h0];dsimp only;rw[if_neg (show ¬(3:Int)=2 by decide),if_pos rfl];split at h
 ·cases h
 ·rename_i m q2 e
  try rw[e]
  try dsimp only
  split at h
  ·rename_i hm;rw[if_pos hm,h]
  ·cases h
theorem BY(h0:aO t 0=some (2,q1))(h:dQ t q1=none):aR t=none:=by
 unfold aR;rw[h0];dsimp only;rw[if_pos rfl,h]
theorem Kh(h0:aO t 0=some (2,q1))(h:dQ t q1=some ((x1,x2,x3,x4),z)):aR t=some (⟨2,x1,x2,x3,x4,[],0,0,⟨#[]⟩,0,0⟩,z):=by
 unfold aR;rw[h0];dsimp only;rw[if_pos rfl,h]
theorem BZ(h0:aO t 0=some (4,q1))(h:dQ t q1=none):aR t=none:=by
 unfold aR;rw[h0];dsimp only;rw[if_neg (show ¬(4:Int)=2 by decide),if_neg (show ¬(4:Int)=3 by decide),if_pos rfl,h]
theorem Kj(h0:aO t 0=some (4,q1))(h:dQ t q1=some ((x1,x2,x3,x4),z))(h2:eH t z=none):aR t=none:=by
 unfold aR;rw[h0];dsimp only;rw[if_neg (show ¬(4:Int)=2 by decide),if_neg (show ¬(4:Int)=3 by decide),if_pos rfl,h];dsimp only;rw[h2]
theorem Ki{px:ByteArray}(h0:aO t 0=some (4,q1))(h:dQ t q1=some ((x1,x2,x3,x4),z))(h2:eH t z=some (px,z2)):aR t=some (⟨4,0,0,0,0,[],x1,x2,px,x3,x4⟩,z2):=by
 unfold aR;rw[h0];dsimp only;rw[if_neg (show ¬(4:Int)=2 by decide),if_neg (show ¬(4:Int)=3 by decide),if_pos rfl,h];dsimp only;rw[h2]
theorem rc_o{kd:Int}(h0:aO t 0=some (kd,q1))(k2:¬kd=2)(k3:¬kd=3)(k4:¬kd=4):aR t=some (⟨kd,0,0,0,0,[],0,0,⟨#[]⟩,0,0⟩,q1):=by
 unfold aR;rw[h0];dsimp only;rw[if_neg k2,if_neg k3,if_neg k4]
theorem r4_1(h:aO t q=none):dQ t q=none:=by unfold dQ;rw[h]
theorem r4_2(h1:aO t q=some (x1,z1))(h:aO t z1=none):dQ t q=none:=by unfold dQ;rw[h1];dsimp only;rw[h]
theorem r4_3(h1:aO t q=some (x1,z1))(h2:aO t z1=some (x2,z2))(h:aO t z2=none):dQ t q=none:=by unfold dQ;rw[h1];dsimp only;rw[h2];dsimp only;rw[h]
theorem r4_4(h1:aO t q=some (x1,z1))(h2:aO t z1=some (x2,z2))(h3:aO t z2=some (x3,z3))(h:aO t z3=none):dQ t q=none:=by unfold dQ;rw[h1];dsimp only;rw[h2];dsimp only;rw[h3];dsimp only;rw[h]
theorem r4_s{z4:Nat}(h1:aO t q=some (x1,z1))(h2:aO t z1=some (x2,z2))(h3:aO t z2=some (x3,z3))(h:aO t z3=some (x4,z4)):dQ t q=some ((x1,x2,x3,x4),z4):=by unfold dQ;rw[h1];dsimp only;rw[h2];dsimp only;rw[h3];dsimp only;rw[h]
theorem fV(T:Array Value)(X:World)(b:Nat)(c:Cm)(v:Value)(hT:T.getD 2 undef=.pointer (some ⟨b,0,none⟩))(h:Blk X b [J Y c.kind,J Y c.A,J Y c.B,J Y c.C,J Y c.D,v,J Y c.wd,J Y c.ht,.string c.px,J Y c.lv,J Y c.fo] 45):(results Tryz.f132 T).run Tryz.prog X=.ok (cmV c v) X:=by
 obtain⟨h0,h1,h2,h3,h4,h5,h6,h7,h8,h9,h10⟩:=dF (h);simp only[Array.getD_eq_getD_getElem?]at hT;unfold cmV;simp[results,Tryz.results132,go_sem,hT,h0,h1,h2,h3,h4,h5,h6,h7,h8,h9,h10]
theorem qr(t:ByteArray)(p:Addr)(w:World)(ht:t.size≤8000)(hE:ce p w):
  Calls Tryz.prog 132 #[.string t] w fun e w'=>uk p w.heap.size t e w'∧Below w.heap.size w w':=by
 have B0:=yz (aF w (.cells #[J Y 0,J Y 0,J Y 0,J Y 0,J Y 0,.slice none 0 0,J Y 0,J Y 0,.string ⟨#[]⟩,J Y 0,J Y 0] 45) (.cells #[.string t,J Y 0] 230));have R0:=yz ((ap w [J Y 0,J Y 0,J Y 0,J Y 0,J Y 0,.slice none 0 0,J Y 0,J Y 0,.string ⟨#[]⟩,J Y 0,J Y 0] 45).alloc (.cells #[.string t,J Y 0] 230));have D0:=yz (by simpa using ap (w.alloc (.cells #[J Y 0,J Y 0,J Y 0,J Y 0,J Y 0,.slice none 0 0,J Y 0,J Y 0,.string ⟨#[]⟩,J Y 0,J Y 0] 45)) [.string t,J Y ((0:Nat):Int)] 230:Blk ((w.alloc (.cells #[J Y 0,J Y 0,J Y 0,J Y 0,J Y 0,.slice none 0 0,J Y 0,J Y 0,.string ⟨#[]⟩,J Y 0,J Y 0] 45)).alloc (.cells #[.string t,J Y 0] 230)) (w.heap.size+1) [.string t,J Y ((0:Nat):Int)] 230);have hel:=hE.lt;have E0:=yz (hE.kept (yx B0));have hne:0≠w.heap.size+1:=by omega
 have hl0:w.heap.size+1+1≤((w.alloc (.cells #[J Y 0,J Y 0,J Y 0,J Y 0,J Y 0,.slice none 0 0,J Y 0,J Y 0,.string ⟨#[]⟩,J Y 0,J Y 0] 45)).alloc (.cells #[.string t,J Y 0] 230)).heap.size:=by simp
 have HE:=yz hE;clear hE;cases h0:aO t 0 with
 | none=>
  go_enter Tryz.func132,Tryz.ntmps132;have cA:=yz (dC (w.heap.size+1) t 0 p _ ht (by omega) h0 (yx D0) (yx E0));have HN:=yz (show aR t=none by unfold aR;rw[h0]);go_wp2_with fail;refine(yx cA).mono ?_;rintro e wx ⟨rfl,hx⟩;exact⟨rfl,gB (yx HN),aj (yx B0) hx⟩
 | some y0=>
  obtain⟨kd,q1⟩:=y0;have hq1:=(aT h0).2;go_enter Tryz.func132,Tryz.ntmps132;have cA:=yz (cJ (w.heap.size+1) t 0 q1 kd _ ht (by omega) h0 (yx D0));go_wp2_with fail;refine(yx cA).mono ?_;rintro e w1 ⟨rfl,hD,hg⟩;have D1:=yz hD;have B1:=yz (iM (yx B0) hg (by omega) (by omega));have R1:=yz ((yx R0).grownK hg (by omega));have hl1:=Nat.le_trans hl0 hg.size;have E1:=an HE (yx B1);clear hD hg cA D0 B0 R0 E0;have Z:=ak w1 (.cells #[J Y kd,J Y 0,J Y 0,J Y 0,J Y 0,.slice none 0 0,J Y 0,J Y 0,.string ⟨#[]⟩,J Y 0,J Y 0] 45);have C2:=yz (ap w1 [J Y kd,J Y 0,J Y 0,J Y 0,J Y 0,.slice none 0 0,J Y 0,J Y 0,.string ⟨#[]⟩,J Y 0,J Y 0] 45);have D2:=an D1 Z;have R2:=an R1 Z;have B2:=aA B1 Z;have E2:=an E1 Z;have hl2:=Nat.le_trans hl1 Z.size;have hlc:=(yx C2).lt;clear Z D1 R1 B1 E1;by_cases k2:kd=2
  ·subst k2;have c0:=dF (yx C2);cases n1:aO t q1 with
   | none=>
    have cA:=yz (dC (w.heap.size+1) t q1 p _ ht (by omega) n1 (yx D2) (yx E2));have HN:=yz (BY h0 (r4_1 n1));go_wp2_with fail;refine(yx cA).mono ?_;rintro e wx ⟨rfl,hx⟩;exact⟨rfl,gB (yx HN),aj (yx B2) hx⟩
   | some y1=>
    obtain⟨x1,z1⟩:=y1;have hz1:=(aT n1).2;have cA:=yz (cJ (w.heap.size+1) t q1 z1 x1 _ ht (by omega) n1 (yx D2));go_wp2_with fail;refine(yx cA).mono ?_;rintro e wa ⟨rfl,hD,hg⟩;have Da:=yz hD;have Ba:=yz (iM (yx B2) hg (by omega) (by omega));have Ra:=yz ((yx R2).grownK hg (by omega));have Ca:=yz ((yx C2).grownK hg (by omega));have hla:=Nat.le_trans hl2 hg.size;have Ea:=an HE (yx Ba);clear hD hg cA D2 B2 R2 E2 C2;cases n2:aO t z1 with
    | none=>
     have cA:=yz (dC (w.heap.size+1) t z1 p _ ht (by omega) n2 (yx Da) (yx Ea));have HN:=yz (BY h0 (r4_2 n1 n2));go_wp2_with fail;refine(yx cA).mono ?_;rintro e wx ⟨rfl,hx⟩;exact⟨rfl,gB (yx HN),aj (yx Ba) hx⟩
    | some y2=>
     obtain⟨x2,z2⟩:=y2;have hz2:=(aT n2).2;have cA:=yz (cJ (w.heap.size+1) t z1 z2 x2 _ ht (by omega) n2 (yx Da));go_wp2_with fail;refine(yx cA).mono ?_;rintro e wb ⟨rfl,hD,hg⟩;have Db:=yz hD;have Bb:=yz (iM (yx Ba) hg (by omega) (by omega));have Rb:=yz ((yx Ra).grownK hg (by omega));have Cb:=yz ((yx Ca).grownK hg (by omega));have hlb:=Nat.le_trans hla hg.size;have Eb:=an HE (yx Bb);clear hD hg cA Da Ba Ra Ea Ca;cases n3:aO t z2 with
     | none=>
      have cA:=yz (dC (w.heap.size+1) t z2 p _ ht (by omega) n3 (yx Db) (yx Eb));have HN:=yz (BY h0 (r4_3 n1 n2 n3));go_wp2_with fail;refine(yx cA).mono ?_;rintro e wx ⟨rfl,hx⟩;exact⟨rfl,gB (yx HN),aj (yx Bb) hx⟩
     | some y3=>
      obtain⟨x3,z3⟩:=y3;have hz3:=(aT n3).2;have cA:=yz (cJ (w.heap.size+1) t z2 z3 x3 _ ht (by omega) n3 (yx Db));go_wp2_with fail;refine(yx cA).mono ?_;rintro e wc ⟨rfl,hD,hg⟩;have Dc:=yz hD;have Bc:=yz (iM (yx Bb) hg (by omega) (by omega));have Rc:=yz ((yx Rb).grownK hg (by omega));have Cc:=yz ((yx Cb).grownK hg (by omega));have hlc:=Nat.le_trans hlb hg.size;have Ec:=an HE (yx Bc);clear hD hg cA Db Bb Rb Eb Cb;cases n4:aO t z3 with
      | none=>
       have cA:=yz (dC (w.heap.size+1) t z3 p _ ht (by omega) n4 (yx Dc) (yx Ec));have HN:=yz (BY h0 (r4_4 n1 n2 n3 n4));go_wp2_with fail;refine(yx cA).mono ?_;rintro e wx ⟨rfl,hx⟩;exact⟨rfl,gB (yx HN),aj (yx Bc) hx⟩
      | some y4=>
       obtain⟨x4,z4⟩:=y4;have hz4:=(aT n4).2;have cA:=yz (cJ (w.heap.size+1) t z3 z4 x4 _ ht (by omega) n4 (yx Dc));go_wp2_with fail;refine(yx cA).mono ?_;rintro e wd ⟨rfl,hD,hg⟩;have Dd:=yz hD;have Bd:=yz (iM (yx Bc) hg (by omega) (by omega));have Rd:=yz ((yx Rc).grownK hg (by omega));have Cd:=yz ((yx Cc).grownK hg (by omega));have hld:=Nat.le_trans hlc hg.size;have Ed:=an HE (yx Bd);clear hD hg cA Dc Bc Rc Ec Cc;have HR4:=yz (r4_s n1 n2 n3 n4);clear n1 n2 n3 n4;have HRC:=yz (Kh h0 (yx HR4));have d0:=(yx Dd).cell 0 _ rfl;have d1:=(yx Dd).cell 1 _ rfl;have c0:=dF (yx Cd);obtain⟨k0,k1,k2,k3,k4,k5,k6,k7,k8,k9,k10⟩:=mp (yx Cd);have r0:=dF (yx Rd);have g0:=mp (yx Rd);by_cases hend:z4=t.size
       ·have hend':((z4:Nat):Int)=(t.size:Int):=by omega
        have hend2:(((z4:Nat):Int)==(t.size:Int))=true:=by simpa using hend'
        go_wp2_with fail;refine(ea _).mono ?_;rintro e wy ⟨rfl,hw⟩;rw[hw];clear hw wy;go_wp2_with fail;clear d0 d1 c0 k0 k1 k2 k3 k4 k5 k6 k7 k8 k9 k10 r0 g0;refine bodyPost_ret (v:=cmV ⟨2,x1,x2,x3,x4,[],0,0,⟨#[]⟩,0,0⟩ (.slice none 0 0)) ?_ rfl ⟨jq (yx HRC) (fun _=>⟨_,rfl,?_⟩) (fun h=>absurd hend h),?_⟩
        ·refine fV _ _ w.heap.size ⟨2,x1,x2,x3,x4,[],0,0,⟨#[]⟩,0,0⟩ (.slice none 0 0) rfl ?_;refine lI (L:=[J Y 0,J Y 0,J Y 0,J Y 0,J Y 0,.slice none 0 0,J Y 0,J Y 0,.string ⟨#[]⟩,J Y 0,J Y 0]) (t:=45) ?_ rfl _ _ _ _ _ _ _ _ _ _ _;iterate 4 (refine Blk.other ?_ _ _ (show w.heap.size≠w1.heap.size by omega))
         exact yx Rd
        ·exact World.ownsRow_nil _ _ _ _
        ·iterate 11 (refine ba ?_ (Nat.le_refl w.heap.size) _ _)
         iterate 4 (refine ba ?_ (show w.heap.size≤w1.heap.size by omega) _ _)
         exact yx Bd
       ·have hend2:(((z4:Nat):Int)==(t.size:Int))=false:=by simp;omega
        have hend':¬((z4:Nat):Int)=(t.size:Int):=by omega
        go_wp2_with fail;clear d0 d1 c0 k0 k1 k2 k3 k4 k5 k6 k7 k8 k9 k10 r0 g0;refine(dZ p _ ((yx HE).kept ?_)).mono ?_
        ·skip;iterate 4 (refine ba ?_ (show w.heap.size≤w1.heap.size by omega) _ _)
         exact yx Bd
        rintro e wy ⟨rfl,hw⟩;rw[hw];refine⟨rfl,jq (yx HRC) (fun h=>absurd h hend) (fun _=>rfl),?_⟩;iterate 4 (refine ba ?_ (show w.heap.size≤w1.heap.size by omega) _ _)
        exact yx Bd
  by_cases k3:kd=3
  ·subst k3;have c0:=dF (yx C2);have cA:=yz (DX (w.heap.size+1) t q1 p _ ht (by omega) hne (yx D2) (yx E2));go_wp2_with fail;clear c0;refine(yx cA).mono ?_;rintro e w3 ⟨hg,hend0⟩;have B3:=yz (iM (yx B2) hg (by omega) (by omega));have R3:=yz ((yx R2).grownK hg (by omega));have C3:=yz ((yx C2).grownK hg (by omega));have hl3:=Nat.le_trans hl2 hg.size;cases hsp:gW t q1 with
   | none=>
    rw[hsp]at hend0;have he:e=ey p:=hend0;subst he;have HN:Hid (aR t=none):=yz (JC h0 hsp);exact⟨rfl,gB (yx HN),yx B3⟩
   | some y=>
    obtain⟨S,z4⟩:=y;rw[hsp]at hend0;obtain⟨⟨v,rfl,hown⟩,hD⟩:=hend0;have D3:=yz hD;have hrow:∀z,v.ownBlock=some z→w1.heap.size<z:=fun z hz=>by have:=(hown.lt z hz).1;omega
    have W3:=yz (eb hown (show w.heap.size≤_ by omega));have HRC0:=yz (JD h0 hsp);clear hD hown hg cA D2 B2 R2 C2 E2 hsp;obtain⟨va,vc,rfl⟩:=dT (yx W3);have HRC:=yz (yx HRC0);have d0:=(yx D3).cell 0 _ rfl;have d1:=(yx D3).cell 1 _ rfl;have c0:=dF (yx C3);obtain⟨k0,k1,k2,k3,k4,k5,k6,k7,k8,k9,k10⟩:=mp (yx C3);have r0:=dF (yx R3);have g0:=mp (yx R3);by_cases hend:z4=t.size
    ·have hend':((z4:Nat):Int)=(t.size:Int):=by omega
     have hend2:(((z4:Nat):Int)==(t.size:Int))=true:=by simpa using hend'
     go_wp2_with fail;refine(ea _).mono ?_;rintro e wy ⟨rfl,hw⟩;rw[hw];clear hw wy;go_wp2_with fail;clear d0 d1 c0 k0 k1 k2 k3 k4 k5 k6 k7 k8 k9 k10 r0 g0;refine bodyPost_ret (v:=cmV ⟨3,0,0,0,0,S,0,0,⟨#[]⟩,0,0⟩ (.slice va S.length vc)) ?_ rfl ⟨jq (yx HRC) (fun _=>⟨_,rfl,?_⟩) (fun h=>absurd hend h),?_⟩
     ·refine fV _ _ w.heap.size ⟨3,0,0,0,0,S,0,0,⟨#[]⟩,0,0⟩ (.slice va S.length vc) rfl ?_;refine lI (L:=[J Y 0,J Y 0,J Y 0,J Y 0,J Y 0,.slice none 0 0,J Y 0,J Y 0,.string ⟨#[]⟩,J Y 0,J Y 0]) (t:=45) ?_ rfl _ _ _ _ _ _ _ _ _ _ _;iterate 1 (refine Blk.other ?_ _ _ (show w.heap.size≠w1.heap.size by omega))
      exact yx R3
     ·iterate 11 (refine fC ?_ (fun z hz=>by have:=hrow z hz;omega) _ _)
      refine fC ?_ (fun z hz=>by have:=hrow z hz;omega) _ _;exact yx W3
     ·iterate 11 (refine ba ?_ (Nat.le_refl w.heap.size) _ _)
      iterate 1 (refine ba ?_ (show w.heap.size≤w1.heap.size by omega) _ _)
      exact yx B3
    ·have hend2:(((z4:Nat):Int)==(t.size:Int))=false:=by simp;omega
     have hend':¬((z4:Nat):Int)=(t.size:Int):=by omega
     go_wp2_with fail;clear d0 d1 c0 k0 k1 k2 k3 k4 k5 k6 k7 k8 k9 k10 r0 g0;refine(dZ p _ ((yx HE).kept ?_)).mono ?_
     ·skip;iterate 1 (refine ba ?_ (show w.heap.size≤w1.heap.size by omega) _ _)
      exact yx B3
     rintro e wy ⟨rfl,hw⟩;rw[hw];refine⟨rfl,jq (yx HRC) (fun h=>absurd h hend) (fun _=>rfl),?_⟩;iterate 1 (refine ba ?_ (show w.heap.size≤w1.heap.size by omega) _ _)
     exact yx B3
  by_cases k4:kd=4
  ·subst k4;have c0:=dF (yx C2);cases n1:aO t q1 with
   | none=>
    have cA:=yz (dC (w.heap.size+1) t q1 p _ ht (by omega) n1 (yx D2) (yx E2));have HN:=yz (BZ h0 (r4_1 n1));go_wp2_with fail;refine(yx cA).mono ?_;rintro e wx ⟨rfl,hx⟩;exact⟨rfl,gB (yx HN),aj (yx B2) hx⟩
   | some y1=>
    obtain⟨x1,z1⟩:=y1;have hz1:=(aT n1).2;have cA:=yz (cJ (w.heap.size+1) t q1 z1 x1 _ ht (by omega) n1 (yx D2));go_wp2_with fail;refine(yx cA).mono ?_;rintro e wa ⟨rfl,hD,hg⟩;have Da:=yz hD;have Ba:=yz (iM (yx B2) hg (by omega) (by omega));have Ra:=yz ((yx R2).grownK hg (by omega));have Ca:=yz ((yx C2).grownK hg (by omega));have hla:=Nat.le_trans hl2 hg.size;have Ea:=an HE (yx Ba);clear hD hg cA D2 B2 R2 E2 C2;cases n2:aO t z1 with
    | none=>
     have cA:=yz (dC (w.heap.size+1) t z1 p _ ht (by omega) n2 (yx Da) (yx Ea));have HN:=yz (BZ h0 (r4_2 n1 n2));go_wp2_with fail;refine(yx cA).mono ?_;rintro e wx ⟨rfl,hx⟩;exact⟨rfl,gB (yx HN),aj (yx Ba) hx⟩
    | some y2=>
     obtain⟨x2,z2⟩:=y2;have hz2:=(aT n2).2;have cA:=yz (cJ (w.heap.size+1) t z1 z2 x2 _ ht (by omega) n2 (yx Da));go_wp2_with fail;refine(yx cA).mono ?_;rintro e wb ⟨rfl,hD,hg⟩;have Db:=yz hD;have Bb:=yz (iM (yx Ba) hg (by omega) (by omega));have Rb:=yz ((yx Ra).grownK hg (by omega));have Cb:=yz ((yx Ca).grownK hg (by omega));have hlb:=Nat.le_trans hla hg.size;have Eb:=an HE (yx Bb);clear hD hg cA Da Ba Ra Ea Ca;have Ds:=yz (((yx Db).other ⟨w1.heap.size,6,none⟩ (J Y x1) (show w.heap.size+1≠w1.heap.size by omega)).other ⟨w1.heap.size,7,none⟩ (J Y x2) (show w.heap.size+1≠w1.heap.size by omega));have Rs:=yz (((yx Rb).other ⟨w1.heap.size,6,none⟩ (J Y x1) (show w.heap.size≠w1.heap.size by omega)).other ⟨w1.heap.size,7,none⟩ (J Y x2) (show w.heap.size≠w1.heap.size by omega));have Cs:=yz (((yx Cb).set 6 (J Y x1)).set 7 (J Y x2));have Bs:=yz (ba (ba (yx Bb) (show w.heap.size≤w1.heap.size by omega) 6 (J Y x1)) (show w.heap.size≤w1.heap.size by omega) 7 (J Y x2));have Es:=an HE (yx Bs);have hls:=(yx Ds).lt;have c0:=dF (yx Cb);obtain⟨k0,k1,k2,k3,k4,k5,k6,k7,k8,k9,k10⟩:=mp (yx Cb);cases n3:aO t z2 with
     | none=>
      have cA:=yz (dC (w.heap.size+1) t z2 p _ ht (by omega) n3 (yx Ds) (yx Es));have HN:=yz (BZ h0 (r4_3 n1 n2 n3));go_wp2_with fail;refine(yx cA).mono ?_;rintro e wx ⟨rfl,hx⟩;exact⟨rfl,gB (yx HN),aj (yx Bs) hx⟩
     | some y3=>
      obtain⟨x3,z3⟩:=y3;have hz3:=(aT n3).2;have cA:=yz (cJ (w.heap.size+1) t z2 z3 x3 _ ht (by omega) n3 (yx Ds));go_wp2_with fail;clear c0 k0 k1 k2 k3 k4 k5 k6 k7 k8 k9 k10;refine(yx cA).mono ?_;rintro e wc ⟨rfl,hD,hg⟩;have Dc:=yz hD;have Bc:=yz (iM (yx Bs) hg (by omega) (by omega));have Rc:=yz ((yx Rs).grownK hg (by omega));have Cc:=yz ((yx Cs).grownK hg (by omega));have hlc:=Nat.le_trans hls hg.size;have Ec:=an HE (yx Bc);clear hD hg cA Ds Bs Rs Es Cs;cases n4:aO t z3 with
      | none=>
       have cA:=yz (dC (w.heap.size+1) t z3 p _ ht (by omega) n4 (yx Dc) (yx Ec));have HN:=yz (BZ h0 (r4_4 n1 n2 n3 n4));go_wp2_with fail;refine(yx cA).mono ?_;rintro e wx ⟨rfl,hx⟩;exact⟨rfl,gB (yx HN),aj (yx Bc) hx⟩
      | some y4=>
       obtain⟨x4,z4⟩:=y4;have hz4:=(aT n4).2;have cA:=yz (cJ (w.heap.size+1) t z3 z4 x4 _ ht (by omega) n4 (yx Dc));go_wp2_with fail;refine(yx cA).mono ?_;rintro e wd ⟨rfl,hD,hg⟩;have Dd:=yz hD;have Bd:=yz (iM (yx Bc) hg (by omega) (by omega));have Rd:=yz ((yx Rc).grownK hg (by omega));have Cd:=yz ((yx Cc).grownK hg (by omega));have hld:=Nat.le_trans hlc hg.size;have Ed:=an HE (yx Bd);clear hD hg cA Dc Bc Rc Ec Cc;have HR4:=yz (r4_s n1 n2 n3 n4);clear n1 n2 n3 n4;have Du:=yz (((yx Dd).other ⟨w1.heap.size,9,none⟩ (J Y x3) (show w.heap.size+1≠w1.heap.size by omega)).other ⟨w1.heap.size,10,none⟩ (J Y x4) (show w.heap.size+1≠w1.heap.size by omega));have Ru:=yz (((yx Rd).other ⟨w1.heap.size,9,none⟩ (J Y x3) (show w.heap.size≠w1.heap.size by omega)).other ⟨w1.heap.size,10,none⟩ (J Y x4) (show w.heap.size≠w1.heap.size by omega));have Cu:=yz (((yx Cd).set 9 (J Y x3)).set 10 (J Y x4));have Bu:=yz (ba (ba (yx Bd) (show w.heap.size≤w1.heap.size by omega) 9 (J Y x3)) (show w.heap.size≤w1.heap.size by omega) 10 (J Y x4));have Eu:=an HE (yx Bu);have hlu:=(yx Du).lt;have c0:=dF (yx Cd);obtain⟨k0,k1,k2,k3,k4,k5,k6,k7,k8,k9,k10⟩:=mp (yx Cd);cases n5:eH t z4 with
       | none=>
        have cA:=yz (Ir (w.heap.size+1) t z4 p _ ht (by omega) n5 (yx Du) (yx Eu));have HN:=yz (Kj h0 (yx HR4) n5);go_wp2_with fail;refine(yx cA).mono ?_;rintro e wx ⟨rfl,hx⟩;exact⟨rfl,gB (yx HN),aj (yx Bu) hx⟩
       | some y5=>
        obtain⟨px,z5⟩:=y5;have cA:=yz (GB (w.heap.size+1) t z4 z5 px _ ht (by omega) n5 (yx Du));go_wp2_with fail;clear c0 k0 k1 k2 k3 k4 k5 k6 k7 k8 k9 k10;refine(yx cA).mono ?_;rintro e wv ⟨rfl,hD,hg⟩;have Dv:=yz hD;have Bv:=yz (iM (yx Bu) hg (by omega) (by omega));have Rv:=yz ((yx Ru).grownK hg (by omega));have Cv:=yz ((yx Cu).grownK hg (by omega));have hlv:=Nat.le_trans hlu hg.size;have Ev:=an HE (yx Bv);clear hD hg cA Du Bu Ru Eu Cu;have HRC:=yz (Ki h0 (yx HR4) n5);have d0:=(yx Dv).cell 0 _ rfl;have d1:=(yx Dv).cell 1 _ rfl;have c0:=dF (yx Cv);obtain⟨k0,k1,k2,k3,k4,k5,k6,k7,k8,k9,k10⟩:=mp (yx Cv);have r0:=dF (yx Rv);have g0:=mp (yx Rv);by_cases hend:z5=t.size
        ·have hend':((z5:Nat):Int)=(t.size:Int):=by omega
         have hend2:(((z5:Nat):Int)==(t.size:Int))=true:=by simpa using hend'
         go_wp2_with fail;refine(ea _).mono ?_;rintro e wy ⟨rfl,hw⟩;rw[hw];clear hw wy;go_wp2_with fail;clear d0 d1 c0 k0 k1 k2 k3 k4 k5 k6 k7 k8 k9 k10 r0 g0;refine bodyPost_ret (v:=cmV ⟨4,0,0,0,0,[],x1,x2,px,x3,x4⟩ (.slice none 0 0)) ?_ rfl ⟨jq (yx HRC) (fun _=>⟨_,rfl,?_⟩) (fun h=>absurd hend h),?_⟩
         ·refine fV _ _ w.heap.size ⟨4,0,0,0,0,[],x1,x2,px,x3,x4⟩ (.slice none 0 0) rfl ?_;refine lI (L:=[J Y 0,J Y 0,J Y 0,J Y 0,J Y 0,.slice none 0 0,J Y 0,J Y 0,.string ⟨#[]⟩,J Y 0,J Y 0]) (t:=45) ?_ rfl _ _ _ _ _ _ _ _ _ _ _;iterate 1 (refine Blk.other ?_ _ _ (show w.heap.size≠w1.heap.size by omega))
          exact yx Rv
         ·exact World.ownsRow_nil _ _ _ _
         ·iterate 11 (refine ba ?_ (Nat.le_refl w.heap.size) _ _)
          iterate 1 (refine ba ?_ (show w.heap.size≤w1.heap.size by omega) _ _)
          exact yx Bv
        ·have hend2:(((z5:Nat):Int)==(t.size:Int))=false:=by simp;omega
         have hend':¬((z5:Nat):Int)=(t.size:Int):=by omega
         go_wp2_with fail;clear d0 d1 c0 k0 k1 k2 k3 k4 k5 k6 k7 k8 k9 k10 r0 g0;refine(dZ p _ ((yx HE).kept ?_)).mono ?_
         ·skip;iterate 1 (refine ba ?_ (show w.heap.size≤w1.heap.size by omega) _ _)
          exact yx Bv
         rintro e wy ⟨rfl,hw⟩;rw[hw];refine⟨rfl,jq (yx HRC) (fun h=>absurd h hend) (fun _=>rfl),?_⟩;iterate 1 (refine ba ?_ (show w.heap.size≤w1.heap.size by omega) _ _)
         exact yx Bv
  have c0:=dF (yx C2);have HK:=yz (rc_o h0 k2 k3 k4);have HRC:=yz (yx HK);have d0:=(yx D2).cell 0 _ rfl;have d1:=(yx D2).cell 1 _ rfl;have c0:=dF (yx C2);obtain⟨k0,k1,k2,k3,k4,k5,k6,k7,k8,k9,k10⟩:=mp (yx C2);have r0:=dF (yx R2);have g0:=mp (yx R2);by_cases hend:q1=t.size
  ·have hend':((q1:Nat):Int)=(t.size:Int):=by omega
   have hend2:(((q1:Nat):Int)==(t.size:Int))=true:=by simpa using hend'
   go_wp2_with fail;refine(ea _).mono ?_;rintro e wy ⟨rfl,hw⟩;rw[hw];clear hw wy;go_wp2_with fail;clear d0 d1 c0 k0 k1 k2 k3 k4 k5 k6 k7 k8 k9 k10 r0 g0;refine bodyPost_ret (v:=cmV ⟨kd,0,0,0,0,[],0,0,⟨#[]⟩,0,0⟩ (.slice none 0 0)) ?_ rfl ⟨jq (yx HRC) (fun _=>⟨_,rfl,?_⟩) (fun h=>absurd hend h),?_⟩
   ·refine fV _ _ w.heap.size ⟨kd,0,0,0,0,[],0,0,⟨#[]⟩,0,0⟩ (.slice none 0 0) rfl ?_;refine lI (L:=[J Y 0,J Y 0,J Y 0,J Y 0,J Y 0,.slice none 0 0,J Y 0,J Y 0,.string ⟨#[]⟩,J Y 0,J Y 0]) (t:=45) ?_ rfl _ _ _ _ _ _ _ _ _ _ _;exact yx R2
   ·exact World.ownsRow_nil _ _ _ _
   ·iterate 11 (refine ba ?_ (Nat.le_refl w.heap.size) _ _)
    exact yx B2
  ·have hend2:(((q1:Nat):Int)==(t.size:Int))=false:=by simp;omega
   have hend':¬((q1:Nat):Int)=(t.size:Int):=by omega
   go_wp2_with fail;clear d0 d1 c0 k0 k1 k2 k3 k4 k5 k6 k7 k8 k9 k10 r0 g0;refine(dZ p _ ((yx HE).kept ?_)).mono ?_
   ·skip;exact yx B2
   rintro e wy ⟨rfl,hw⟩;rw[hw];refine⟨rfl,jq (yx HRC) (fun h=>absurd h hend) (fun _=>rfl),?_⟩;exact yx B2
def Br(w':World)(B:Nat)(c:Cm)(code:Int)(e:Ending):Prop:=∃v,e=.returned (.agg #[J Y c.kind,J Y c.A,J Y c.B,J Y c.C,J Y c.D,v,J Y c.wd,J Y c.ht,.string c.px,J Y c.lv,J Y c.fo,J Y code])∧w'.ownsRow B 111 3 v c.S.length (gn c.S)
theorem ge(w':World)(B:Nat)(code:Int):Br w' B dN code (.returned (.agg #[J Y 0,J Y 0,J Y 0,J Y 0,J Y 0,.slice none 0 0,J Y 0,J Y 0,.string ⟨#[]⟩,J Y 0,J Y 0,J Y code])):=⟨_,rfl,World.ownsRow_nil _ _ _ _⟩
variable {w:World}
theorem fy{b:Nat}{L:List Value}{t:TypeId}(h:Blk w b L t)(hl:L.length=12)(y0 y1 y2 y3 y4 y5 y6 y7 y8 y9 y10 y11:Value):Blk (((((((((((((w).setCell ⟨b,0,none⟩ (y0)).setCell ⟨b,1,none⟩ (y1)).setCell ⟨b,2,none⟩ (y2)).setCell ⟨b,3,none⟩ (y3)).setCell ⟨b,4,none⟩ (y4)).setCell ⟨b,5,none⟩ (y5)).setCell ⟨b,6,none⟩ (y6)).setCell ⟨b,7,none⟩ (y7)).setCell ⟨b,8,none⟩ (y8)).setCell ⟨b,9,none⟩ (y9)).setCell ⟨b,10,none⟩ (y10)).setCell ⟨b,11,none⟩ (y11)) b [y0,y1,y2,y3,y4,y5,y6,y7,y8,y9,y10,y11] t:=by
 match L,hl with
 | [x0,x1,x2,x3,x4,x5,x6,x7,x8,x9,x10,x11],_=>exact(((((((((((h.set 0 _).set 1 _).set 2 _).set 3 _).set 4 _).set 5 _).set 6 _).set 7 _).set 8 _).set 9 _).set 10 _).set 11 _
theorem jR(T:Array Value)(X:World)(b:Nat)(c:Cm)(v:Value)(k:Int)(hT:T.getD 2 undef=.pointer (some ⟨b,0,none⟩))(h:Blk X b [J Y c.kind,J Y c.A,J Y c.B,J Y c.C,J Y c.D,v,J Y c.wd,J Y c.ht,.string c.px,J Y c.lv,J Y c.fo,J Y k] 86):(results Tryz.f94 T).run Tryz.prog X=.ok (.agg #[J Y c.kind,J Y c.A,J Y c.B,J Y c.C,J Y c.D,v,J Y c.wd,J Y c.ht,.string c.px,J Y c.lv,J Y c.fo,J Y k]) X:=by
 obtain⟨h0,h1,h2,h3,h4,h5,h6,h7,h8,h9,h10,h11⟩:=dh (h);simp only[Array.getD_eq_getD_getElem?]at hT;simp[results,Tryz.results94,go_sem,hT,h0,h1,h2,h3,h4,h5,h6,h7,h8,h9,h10,h11]
theorem gM(b:Nat)(L:List Value)(u:TypeId)(pv:Value)(older:List PanicEntry)(w:World)(hl:L.length=12)(hB:Blk w b L 86):
  CallsD Tryz.prog 131 #[.pointer (some ⟨b,0,none⟩)] (.panicking ({ v:=.iface u pv,recovered:=false } :: older)) w fun e u' w'=>
   e=.returned (.tuple #[])∧u'=.panicking ({ v:=.iface u pv,recovered:=true } :: older)∧w'=((((((((((((w).setCell ⟨b,0,none⟩ (J Y 0)).setCell ⟨b,1,none⟩ (J Y 0)).setCell ⟨b,2,none⟩ (J Y 0)).setCell ⟨b,3,none⟩ (J Y 0)).setCell ⟨b,4,none⟩ (J Y 0)).setCell ⟨b,5,none⟩ (.slice none 0 0)).setCell ⟨b,6,none⟩ (J Y 0)).setCell ⟨b,7,none⟩ (J Y 0)).setCell ⟨b,8,none⟩ (.string ⟨#[]⟩)).setCell ⟨b,9,none⟩ (J Y 0)).setCell ⟨b,10,none⟩ (J Y 0)).setCell ⟨b,11,none⟩ (J Y 3):=by
 obtain⟨x0,x1,x2,x3,x4,x5,x6,x7,x8,x9,x10,x11,rfl⟩:∃x0 x1 x2 x3 x4 x5 x6 x7 x8 x9 x10 x11,L=[x0,x1,x2,x3,x4,x5,x6,x7,x8,x9,x10,x11]:=by
  match L,hl with
  | [x0,x1,x2,x3,x4,x5,x6,x7,x8,x9,x10,x11],_=>exact⟨x0,x1,x2,x3,x4,x5,x6,x7,x8,x9,x10,x11,rfl⟩
 have h0:=hB.cell 0 _ rfl;have f0:=hB.free 0;have h1:=hB.cell 1 _ rfl;have f1:=hB.free 1;have h2:=hB.cell 2 _ rfl;have f2:=hB.free 2;have h3:=hB.cell 3 _ rfl;have f3:=hB.free 3;have h4:=hB.cell 4 _ rfl;have f4:=hB.free 4;have h5:=hB.cell 5 _ rfl;have f5:=hB.free 5;have h6:=hB.cell 6 _ rfl;have f6:=hB.free 6;have h7:=hB.cell 7 _ rfl;have f7:=hB.free 7;have h8:=hB.cell 8 _ rfl;have f8:=hB.free 8;have h9:=hB.cell 9 _ rfl;have f9:=hB.free 9;have h10:=hB.cell 10 _ rfl;have f10:=hB.free 10;have h11:=hB.cell 11 _ rfl;have f11:=hB.free 11;refine callsD_of_wpS Tryz.func131 rfl fun c₀ cs hu=>?_;apply wpS_seq;apply wpS_region;simp[wpOpsS,go_sem,recoverD,hu,Tryz.ntmps131,Exit.thenS];refine wpS_cond (t:=true) (by simp[Act.eval,Array.replicate]) ?_;simp only[if_true];apply wpS_region;simp[wpOpsS,go_sem,h0,f0,h1,f1,h2,f2,h3,f3,h4,f4,h5,f5,h6,f6,h7,f7,h8,f8,h9,f9,h10,f10,h11,f11,bodyPostS,results,Tryz.results131]
theorem xE(b:Nat)(w:World):
  CallsD Tryz.prog 131 #[.pointer (some ⟨b,0,none⟩)] .returning w fun e u' w'=>e=.returned (.tuple #[])∧u'=.returning∧w'=w:=by
 refine callsD_of_wpS Tryz.func131 rfl fun c₀ cs hu=>?_;apply wpS_seq;apply wpS_region;simp[wpOpsS,go_sem,recoverD,hu,Tryz.ntmps131,Exit.thenS];refine wpS_cond (t:=false) (by simp[Act.eval,Array.replicate]) ?_;simp only[Bool.false_eq_true,if_false];refine wpS_of_wp (wp_skip ?_);cases c₀;simp_all [bodyPostS,results,Tryz.results131]
theorem mT{t:ByteArray}{c:Cm}{q:Nat}(h:aR t=some (c,q)):c.S.length≤6:=by
 unfold aR at h;split at h
 ·cases h
 ·rename_i kd q1 h1
  split at h
  ·split at h
   ·cases h
   ·simp at h;obtain⟨rfl,_⟩:=h;simp
  ·split at h
   ·split at h
    ·cases h
    ·rename_i m q2 h2
     split at h
     ·rename_i hm
      split at h
      ·cases h
      ·rename_i S q3 h3
       have e3:=jQ (aT h2).2 _ h3;simp at h;obtain⟨rfl,_⟩:=h;show S.length≤6;omega
     ·cases h
   ·split at h
    ·split at h
     ·cases h
     ·split at h
      ·cases h
      ·simp at h;obtain⟨rfl,_⟩:=h;simp
    ·simp at h;obtain⟨rfl,_⟩:=h;simp
theorem ns{B:Nat}{S:List D3}{a:Option Addr}{k:Nat}(h:w.ownsRow B 111 3 (.slice a S.length k) S.length (gn S)):bi w a S S.length∧(S.length≤k∧k≤maxLen∨S.length=0∧k=0):=by
 rcases h.2 with ⟨h1,h0⟩ | ⟨g,cap,cur,e,hb,hg,h1,h2,h3,h4⟩
 ·injection h1 with e1 e2 e3;exact⟨.inl h0,.inr ⟨h0,e3⟩⟩
 ·injection e with e1 e2 e3;subst e1 e3;refine⟨.inr ⟨g,0,rfl,(Array.getElem?_eq_some_iff.1 hg).1,fun i hi=>?_⟩,.inl ⟨h1,h2⟩⟩
  have hf:∀(S:List D3) (i:Nat),i<S.length→(gn S)[i*3]? = some (J Y (vA S i).1)∧(gn S)[i*3+1]? = some (J Y (vA S i).2.1)∧(gn S)[i*3+2]? = some (J Y (vA S i).2.2):=by
   intro S
   induction S with
   | nil=>intro i hi;simp at hi
   | cons x S ih=>
    intro i hi;have ex:gn (x :: S)=pY x ++ gn S:=by unfold gn;simp
    rw[ex];cases i with
    | zero=>exact⟨rfl,rfl,rfl⟩
    | succ i=>
     have hv:vA (x :: S) (i+1)=vA S i:=by unfold vA;simp
     rw[hv];have hl:(pY x).length=3:=rfl;have:=ih i (by simpa using hi);refine⟨?_,?_,?_⟩
     ·rw[List.getElem?_append_right (by omega),hl,show (i+1)*3-3=i*3 by omega];exact this.1
     ·rw[List.getElem?_append_right (by omega),hl,show (i+1)*3+1-3=i*3+1 by omega];exact this.2.1
     ·rw[List.getElem?_append_right (by omega),hl,show (i+1)*3+2-3=i*3+2 by omega];exact this.2.2
  obtain⟨g0,g1,g2⟩:=hf S i hi
  have cl:∀j u,j<S.length*3→(gn S)[j]? = some u→w.cell? ⟨g,j,none⟩=some u:=by
   intro j u hj hu;rw[cell_of_row w g j cur _ _ hg];rw[←h4,List.getElem?_take,if_pos hj]at hu;simpa using hu
  rw[Nat.zero_add];exact⟨cl _ _ (by omega) g0,cl _ _ (by omega) g1,cl _ _ (by omega) g2⟩
theorem BS(b:ByteArray):∀(n i:Nat) (r:List UInt8),b.size-i=n→r≠[]→ByteArray.toList.loop b i r≠[]
 | n,i,r,hn,hr=>by
  unfold ByteArray.toList.loop;split
  ·cases n with
   | zero=>omega
   | succ n=>exact BS b n (i+1) _ (by omega) (by simp)
  ·simpa using hr
theorem ly{b:ByteArray}(h:b.toList=[]):b.size=0:=by
 by_cases hz:b.size=0
 ·exact hz
 ·exfalso;unfold ByteArray.toList at h;unfold ByteArray.toList.loop at h;rw[if_pos (by omega)]at h;exact BS b _ _ _ rfl (by simp) h
theorem vI{wd ht lv fo:Int}{px:ByteArray}(h:fr0 wd ht px=true)(h1:decide (lv=0)=true)(h2:decide (fo=0)=true):wd=0∧ht=0∧px=⟨#[]⟩∧lv=0∧fo=0:=by
 unfold fr0 at h;simp only[Bool.and_eq_true,decide_eq_true_eq]at h h1 h2;refine⟨h.1.1,h.1.2,?_,h1,h2⟩;apply nu
 ·exact ly h.2
 ·intro j hj;have:=ly h.2;omega
theorem Ep{c:Cm}(h:bu c=true)(a:Option Addr)(k:Nat)(W:World):
  ∃ bt bv bf, Cy c.kind c.A c.B c.C c.D (.slice a c.S.length k) c.wd c.ht c.px c.lv c.fo = .iface bt bv ∧ (∀ W : World, (method 441 bt bv "loop.example/g00577/impl.command").run Tryz.prog W = .ok (bf, bv) W) ∧ (∀ W : World, (callFunc bf #[bv]).run Tryz.prog W = .ok (.enter bf #[bv]) W) ∧ ∃ v2, (v2 = .slice a c.S.length k ∨ (v2 = .slice none 0 0 ∧ c.S = [])) ∧ ∀ W : World, Calls Tryz.prog bf #[bv] W fun e w' => e = .returned (.agg #[J Y c.kind, J Y c.A, J Y c.B, J Y c.C, J Y c.D, v2, J Y c.wd, J Y c.ht, .string c.px, J Y c.lv, J Y c.fo]) ∧ Below W.heap.size W w' := by
 obtain⟨kind,A,B,C,D,S,wd,ht,px,lv,fo⟩:=c;have hn0:∀S:List D3,noS S=true→S=[]:=fun S hs=>by unfold noS at hs;exact List.eq_nil_of_length_eq_zero (of_decide_eq_true hs)
 have ht0:∀ {a b c d:Int},eqT a b c d 0 0 0 0=true→a=0∧b=0∧c=0∧d=0:=fun h=>by unfold eqT at h;exact of_decide_eq_true h
 rcases Ce h with e | e | e | e
 ·obtain rfl:kind=1:=e;rw[BB rfl]at h;unfold tz hU at h;simp only[Bool.and_eq_true]at h;obtain⟨rfl,rfl,rfl,rfl⟩:=ht0 h.1.1;obtain rfl:=hn0 S h.1.2;obtain⟨rfl,rfl,rfl,rfl,rfl⟩:=vI h.2.1.1 h.2.1.2 h.2.2;exact⟨_,_,250,rfl,fun _=>by kernel_rfl,fun _=>by kernel_rfl,_,.inr ⟨rfl,rfl⟩,fun W=>nR W⟩
 ·obtain rfl:kind=2:=e;rw[up rfl]at h;unfold hU at h;simp only[Bool.and_eq_true]at h;obtain rfl:=hn0 S h.1.2;obtain⟨rfl,rfl,rfl,rfl,rfl⟩:=vI h.2.1.1 h.2.1.2 h.2.2;exact⟨_,_,252,rfl,fun _=>by kernel_rfl,fun _=>by kernel_rfl,_,.inr ⟨rfl,rfl⟩,fun W=>pF A B C D W⟩
 ·obtain rfl:kind=3:=e;rw[uq rfl]at h;unfold tz hU at h;simp only[Bool.and_eq_true]at h;obtain⟨rfl,rfl,rfl,rfl⟩:=ht0 h.1.1;obtain⟨rfl,rfl,rfl,rfl,rfl⟩:=vI h.2.1.1 h.2.1.2 h.2.2;exact⟨_,_,254,rfl,fun _=>by kernel_rfl,fun _=>by kernel_rfl,_,.inl rfl,fun W=>pM a S.length k W⟩
 ·obtain rfl:kind=4:=e;rw[pr rfl]at h;unfold tz at h;simp only[Bool.and_eq_true]at h;obtain⟨rfl,rfl,rfl,rfl⟩:=ht0 h.1.1.1.1;obtain rfl:=hn0 S h.1.1.1.2;exact⟨_,_,256,rfl,fun _=>by kernel_rfl,fun _=>by kernel_rfl,_,.inr ⟨rfl,rfl⟩,fun W=>nz wd ht lv fo px W⟩
theorem mg(s:ByteArray)(p:Addr)(w:World)(hs:s.size≤1048576)(hE:ce p w):
  Calls Tryz.prog 94 #[.string s] w fun e w'=>Br w' w.heap.size (gN s) (ej s) e∧Below w.heap.size w w':=by
 have B0:=yz (ak w (.cells #[J Y 0,J Y 0,J Y 0,J Y 0,J Y 0,.slice none 0 0,J Y 0,J Y 0,.string ⟨#[]⟩,J Y 0,J Y 0,J Y 0] 86));have R0:=yz (ap w [J Y 0,J Y 0,J Y 0,J Y 0,J Y 0,.slice none 0 0,J Y 0,J Y 0,.string ⟨#[]⟩,J Y 0,J Y 0,J Y 0] 86);have HE:=yz hE;clear hE;have hmf:∀(fn:Fn) (first cap:Array Value) (w:World),(Instr.makeFunc fn first cap).run Tryz.prog w=.ok (.func fn first cap) w:=fun _ _ _ _=>rfl;go_enter_defers Tryz.func94,Tryz.ntmps94
 go_wp2_with fail;refine(Bh s _ hs).mono ?_;rintro e w1 ⟨rfl,hx⟩;have Z:=ak w1 (.cells #[.string (unT s),J Y 0,J Y (unC s)] 83);have B1:=aA (aA B0 hx) Z;have R1:=aI R0 hx Z;have T1:=yz (ap w1 [.string (unT s),J Y 0,J Y (unC s)] 83);have hrl:=(yx R1).lt;clear hx Z B0 R0;by_cases hu:unC s=0
 ·have hz:=(tm hu).1;have cR:=yz (qr (unT s) p _ (by omega) ((yx HE).kept (yx B1)));obtain⟨q0,q1,q2⟩:=eP (yx T1);rw[hu]at q2;have hK:Hid (ej s=(match aR (unT s) with | none=>3 | some (c,q)=>if q=(unT s).size∧bu c=true then 0 else 3)):=yz (by unfold ej;rw[if_pos hu];rfl);have hC:Hid (gN s=(match aR (unT s) with | none=>dN | some (c,q)=>if q=(unT s).size∧bu c=true then c else dN)):=yz (by unfold gN;rw[if_pos hu];rfl);rw[hu]at B1 R1 T1 cR hrl ⊢;go_wp2_with fail;clear q0 q1 q2;refine(yx cR).mono ?_;rintro e w2 ⟨hend,hx⟩;have B2:=aA B1 hx;have R2:=an R1 hx;have hsz2:=hx.size;clear cR hx B1 R1 T1;unfold uk at hend;cases hr:aR (unT s) with
  | none=>
   rw[hr]at hend hK hC;have he:e=ey p:=hend;subst he;have hcc:gN s=dN∧ej s=3:=⟨yx hC,yx hK⟩
   have HCC:=yz hcc;clear hcc;unfold ey;go_wp2_with fail;refine leaves_cons (f:=131) (args:=#[.pointer (some ⟨w.heap.size,0,none⟩)]) (by simp) (by simp[go_sem]) ?_;refine(gM w.heap.size _ _ _ [] _ rfl (yx R2)).mono ?_;rintro e u' w'' ⟨rfl,rfl,hw⟩;subst hw;refine⟨_,jR _ _ w.heap.size dN (.slice none 0 0) 3 rfl (fy (yx R2) rfl _ _ _ _ _ _ _ _ _ _ _ _),?_,?_⟩
   ·rw[(yx HCC).1,(yx HCC).2];exact ge _ _ 3
   ·iterate 12 (refine ba ?_ (Nat.le_refl w.heap.size) _ _)
    exact yx B2
  | some y=>
   obtain⟨c,q⟩:=y;rw[hr]at hend hK hC;dsimp only at hend hK hC;by_cases hq:q=(unT s).size
   ·rw[if_pos hq]at hend;obtain⟨v,he,hown⟩:=hend;obtain⟨va,vc,rfl⟩:=dT hown;subst he;obtain⟨hdir,hcap⟩:=ns hown;have hm8:maxLen≤9223372036854775807:=by decide +kernel
    have hS6:c.S.length≤1048576:=by
     rcases hcap with h | h
     ·unfold maxLen at h;have:=mT hr;omega
     ·omega
    have hvc:c.S.length≤vc∧vc≤9223372036854775807:=by omega
    have cW:=yz (tp c.S c.kind c.A c.B c.C c.D c.wd c.ht c.lv c.fo c.px va vc p w2 hS6 hvc.1 hvc.2 hdir ((yx HE).kept (yx B2)));have O2:=yz (eb hown (show w.heap.size≤_ by omega));have hrow:∀z,(Value.slice va c.S.length vc).ownBlock=some z→w.heap.size<z:=fun z hz=>by have:=(hown.lt z hz).1;omega
    clear hown hdir hcap hm8 hvc hr;unfold cmV;go_wp2_with fail;refine(yx cW).mono ?_;rintro e w3 ⟨hwe,hx⟩;have B3:=aA B2 hx;have R3:=an R2 hx;have O3:=yz (sj (yx O2) hx);clear hx cW B2 R2 O2;unfold bg at hwe;cases hk:bu ⟨c.kind,c.A,c.B,c.C,c.D,c.S,c.wd,c.ht,c.px,c.lv,c.fo⟩
    ·rw[hk]at hwe;have he:e=ey p:=hwe;subst he;have hcc:gN s=dN∧ej s=3:=⟨by rw[yx hC,if_neg (fun h=>by have:=h.2;rw[show bu c=false from hk]at this;cases this)],by rw[yx hK,if_neg (fun h=>by have:=h.2;rw[show bu c=false from hk]at this;cases this)]⟩
     have HCC:=yz hcc;clear hcc;unfold ey;go_wp2_with fail;refine leaves_cons (f:=131) (args:=#[.pointer (some ⟨w.heap.size,0,none⟩)]) (by simp) (by simp[go_sem]) ?_;refine(gM w.heap.size _ _ _ [] _ rfl (yx R3)).mono ?_;rintro e u' w'' ⟨rfl,rfl,hw⟩;subst hw;refine⟨_,jR _ _ w.heap.size dN (.slice none 0 0) 3 rfl (fy (yx R3) rfl _ _ _ _ _ _ _ _ _ _ _ _),?_,?_⟩
     ·rw[(yx HCC).1,(yx HCC).2];exact ge _ _ 3
     ·iterate 12 (refine ba ?_ (Nat.le_refl w.heap.size) _ _)
      exact yx B3
    rw[hk,if_pos rfl]at hwe;have hcc:gN s=c∧ej s=0:=⟨by rw[yx hC,if_pos ⟨hq,hk⟩],by rw[yx hK,if_pos ⟨hq,hk⟩]⟩
    have HCC:=yz hcc;obtain⟨bt,bv,bf,hwv,hm,hcf,v2,hv2,hcall⟩:=Ep (c:=c) hk va vc w3;obtain⟨a2,n2,k2,rfl⟩:∃a2 n2 k2,v2=.slice a2 n2 k2:=by rcases hv2 with rfl | ⟨rfl,_⟩<;>exact⟨_,_,_,rfl⟩
    have HV2:=yz hv2;have hwe':e=.returned (.iface bt bv):=by rw[hwe];exact congrArg _ hwv
    subst hwe';have cB:=yz (hcall w3);clear hwe hwv hcall hcc hk hC hK hv2;go_wp2_with fail;refine(yx cB).mono ?_;rintro e w4 ⟨rfl,hx⟩;have B4:=aA B3 hx;have R4:=an R3 hx;have O4:=yz (sj (yx O3) hx);clear hx cB B3 R3 O3;have r0:=dh (yx R4);have g0:=pq (yx R4);go_wp2_with fail;clear r0 g0;refine leaves_cons (f:=131) (args:=#[.pointer (some ⟨w.heap.size,0,none⟩)]) (by simp) (by simp[go_sem]) ?_;refine(xE w.heap.size _).mono ?_;rintro e u' w'' ⟨rfl,rfl,hw⟩;subst hw;refine⟨_,jR _ _ w.heap.size c (.slice a2 n2 k2) 0 rfl (fy (yx R4) rfl _ _ _ _ _ _ _ _ _ _ _ _),?_,?_⟩
    ·rw[(yx HCC).1,(yx HCC).2];refine⟨_,rfl,?_⟩;rcases yx HV2 with h | ⟨h,h0⟩
     ·rw[h];iterate 12 (refine fC ?_ (fun z hz=>by have:=hrow z hz;omega) _ _)
      exact yx O4
     ·rw[h,h0];exact World.ownsRow_nil _ _ _ _
    ·iterate 12 (refine ba ?_ (Nat.le_refl w.heap.size) _ _)
     exact yx B4
   ·rw[if_neg hq]at hend;have he:e=ey p:=hend;subst he;have hcc:gN s=dN∧ej s=3:=⟨by rw[yx hC,if_neg (fun h=>hq h.1)],by rw[yx hK,if_neg (fun h=>hq h.1)]⟩
    have HCC:=yz hcc;clear hcc;unfold ey;go_wp2_with fail;refine leaves_cons (f:=131) (args:=#[.pointer (some ⟨w.heap.size,0,none⟩)]) (by simp) (by simp[go_sem]) ?_;refine(gM w.heap.size _ _ _ [] _ rfl (yx R2)).mono ?_;rintro e u' w'' ⟨rfl,rfl,hw⟩;subst hw;refine⟨_,jR _ _ w.heap.size dN (.slice none 0 0) 3 rfl (fy (yx R2) rfl _ _ _ _ _ _ _ _ _ _ _ _),?_,?_⟩
    ·rw[(yx HCC).1,(yx HCC).2];exact ge _ _ 3
    ·iterate 12 (refine ba ?_ (Nat.le_refl w.heap.size) _ _)
     exact yx B2
 ·have HCC:Hid (gN s=dN∧ej s=unC s):=yz ⟨by unfold gN;rw[if_neg hu],by unfold ej;rw[if_neg hu]⟩;generalize unC s=uc at *;obtain⟨q0,q1,q2⟩:=eP (yx T1);have r0:=dh (yx R1);have g0:=pq (yx R1);go_wp2_with fail;clear q0 q1 q2 r0 g0;refine⟨_,jR _ _ w.heap.size dN (.slice none 0 0) uc rfl (fy (yx R1) rfl _ _ _ _ _ _ _ _ _ _ _ _),?_,?_⟩
  ·rw[(yx HCC).1,(yx HCC).2];exact ge _ _ _
  ·iterate 12 (refine ba ?_ (Nat.le_refl w.heap.size) _ _)
   exact yx B1
end
section
open Go.Value renaming int → J
open Go.IntKind renaming i64 → Z
open Go.RowKit Go.Sort
def iq(t:ByteArray)(q:Nat)(bad:Bool):ByteArray×Nat×Bool:=if bad=true then (⟨#[]⟩,q,true) else match eH t q with | none=>(⟨#[]⟩,q,true) | some (x,q')=>(x,q',false)
theorem pg{s:ByteArray}{q:Nat}(hs:s.size≤8000):∃(x:ByteArray) (y z:Int),eo s (q:Int)=.agg #[.string x,J Z y,J Z z] ∧
  ((eH s q=none∧z≠0)∨∃q':Nat,eH s q=some (x,q')∧y=(q':Int)∧z=0):=by
 unfold eo eH;rw[if_neg (by omega)];cases h:bR s (q:Int) with
 | error c=>
  refine⟨_,_,c,rfl,.inl ⟨rfl,?_⟩⟩;unfold bR at h;have e:co s (q:Int)=de s q 10 0 0:=by unfold co;rw[if_neg (by omega)];rfl
  rw[e]at h;split at h
  ·rename_i c' h'
   have:=oW 10 0 0 h';simp at h;omega
  ·split at h
   ·simp at h;omega
   ·split at h
    ·simp at h;omega
    ·cases h
 | ok x=>exact⟨_,_,0,rfl,.inr ⟨_,rfl,rfl,rfl⟩⟩
variable {b:Nat} {t:TypeId} {wn wy:World}
theorem JN(hx:Below (wy.alloc (.cells #[.string ⟨#[]⟩,J Z 0,J Z 0] t)).heap.size (wy.alloc (.cells #[.string ⟨#[]⟩,J Z 0,J Z 0] t)) wn):Blk wn wy.heap.size [.string ⟨#[]⟩,J Z 0,J Z 0] t:=(ap wy [.string ⟨#[]⟩,J Z 0,J Z 0] t).kept hx
theorem It(hx:Below ((wy.alloc (.cells #[.string ⟨#[]⟩,J Z 0,J Z 0] t)).drew).heap.size ((wy.alloc (.cells #[.string ⟨#[]⟩,J Z 0,J Z 0] t)).drew) wn):Blk wn wy.heap.size [.string ⟨#[]⟩,J Z 0,J Z 0] t:=(ap wy [.string ⟨#[]⟩,J Z 0,J Z 0] t).drewn.kept hx
theorem Is{wx:World}(h:Blk wx b [.string ⟨#[]⟩,J Z 0,J Z 0] t)(hx:Below wx.heap.size wx wn):Blk wn b [.string ⟨#[]⟩,J Z 0,J Z 0] t:=h.kept hx
theorem Iu{w:World}(h:Blk w b [.string ⟨#[]⟩,J Z 0,J Z 0] t)(x y z:Value):Blk (((w.setCell ⟨b,0,none⟩ x).setCell ⟨b,1,none⟩ y).setCell ⟨b,2,none⟩ z) b [x,y,z] t:=((h.set 0 x).set 1 y).set 2 z
theorem Kl(w:World)(x:ByteArray)(y z:Int)(t:TypeId):Blk (w.alloc (.cells #[.string x,J Z y,J Z z] t)) w.heap.size [.string x,J Z y,J Z z] t:=ap w [.string x,J Z y,J Z z] t
theorem AS(b:Nat)(t:ByteArray)(q:Nat)(bad:Bool)(w:World)(ht:t.size≤8000)(hq:q≤8000)(hR:eU w b t q bad):
  Calls Tryz.prog 88 #[.pointer (some ⟨b,0,none⟩)] w fun e w'=>e=.returned (.string (iq t q bad).1)∧eU w' b t (iq t q bad).2.1 (iq t q bad).2.2∧w.grownBy w' (some b):=by
 have HR:=yz hR;clear hR;obtain⟨x,y,z,hg,hz⟩:=pg (q:=q) ht;have HZ:=yz hz;have cG:Hid (∀W:World,Calls Tryz.prog 45 #[.string t,J Z (q:Int)] W fun e w'=>e=.returned (.agg #[.string x,J Z y,J Z z])∧Below W.heap.size W w'):=yz (fun W=>(kM t (q:Int) W (by omega) (by omega)).mono fun e w' h=>⟨by rw[h.1,hg],h.2⟩);clear hg hz;go_enter Tryz.func88,Tryz.ntmps88;go_wp2_with fail;go_cut [3] (fun s wx=>∃bb,s=.pointer (some ⟨bb,0,none⟩)∧Blk wx bb [.string x,J Z y,J Z z] 83∧Below w.heap.size w wx)
 case first=>
  go_region_held (fun w'=>(w'.cell? ⟨b,0,none⟩=some (.string t)∧w'.cell? ⟨b,1,none⟩=some (J Z (q:Int)))∧Below w.heap.size w w') (first | exact mC (yx HR) (Below.refl _ _).drew | exact mC (yx HR) (vp (by assumption) _) | exact mC (yx HR) (by assumption) | exact mC (yx HR) (kD (by assumption) _) | exact mC (yx HR) (zm (by assumption) (by first | exact Nat.le_refl _ | exact Below.size (by assumption)) _ _ _)) ((go_at_call 45;refine(yx cG _).mono ?_;rintro e wn ⟨rfl,hx⟩;have hw:=zh (w1:=w) hx (by assumption);first | (have hr:Blk wn w.heap.size [.string ⟨#[]⟩,J Z 0,J Z 0] 83:=It hx;have r0:=hr.cell 0 _ rfl;have r1:=hr.cell 1 _ rfl;have r2:=hr.cell 2 _ rfl;have f0:=hr.free 0;have f1:=hr.free 1;have f2:=hr.free 2) | (have hr:=JN hx;have r0:=hr.cell 0 _ rfl;have r1:=hr.cell 1 _ rfl;have r2:=hr.cell 2 _ rfl;have f0:=hr.free 0;have f1:=hr.free 1;have f2:=hr.free 2) | (have hr:=Is (by assumption) hx;have r0:=hr.cell 0 _ rfl;have r1:=hr.cell 1 _ rfl;have r2:=hr.cell 2 _ rfl;have f0:=hr.free 0;have f1:=hr.free 1;have f2:=hr.free 2) | skip))
  all_goals (go_wp2_with fail;go_meet;refine⟨_,rfl,?_,?_⟩)
  all_goals first | (with_reducible exact Kl _ _ _ _ _) | (with_reducible exact kD (by assumption) _) | (with_reducible exact Iu (by assumption) _ _ _) | (with_reducible exact pp (by assumption) (by first | exact Nat.le_refl _ | exact Below.size (by assumption)) _ _ _) | trace_state
 case rest=>
  obtain⟨bb,rfl,v5,hx⟩:=hcut;have R2:=an HR hx;have G2:=yz (rI (b:=b) hx);have v0:=eP (v5);obtain⟨c0,c1,c2,f1,f2⟩:=yx R2;clear hx cG v5;cases bad
  ·rcases yx HZ with ⟨hn,hz⟩ | ⟨q',hn,rfl,rfl⟩
   ·have HV:Hid (iq t q false=(⟨#[]⟩,q,true)):=yz (by unfold iq;rw[hn];rfl);have hz':(z==0)=false:=by simp[hz]
    have hz2:(z != 0)=true:=by simp[hz]
    clear hn;go_wp2_with fail;go_ret;exact⟨by rw[yx HV];rfl,by rw[yx HV];exact(yx R2).bad true,dv (yx G2) _ _⟩
   ·have HV:Hid (iq t q false=(x,q',false)):=yz (by unfold iq;rw[hn];rfl);clear hn;go_wp2_with fail;go_ret;exact⟨by rw[yx HV];rfl,by rw[yx HV];exact(yx R2).at q',dv (yx G2) _ _⟩
  ·have HV:Hid (iq t q true=(⟨#[]⟩,q,true)):=yz rfl;go_wp2_with fail;go_ret;exact⟨by rw[yx HV];rfl,by rw[yx HV];exact(yx R2).bad true,dv (yx G2) _ _⟩
end
end Go.Proofs.YteoonaanoenjiaaGreatDoor
