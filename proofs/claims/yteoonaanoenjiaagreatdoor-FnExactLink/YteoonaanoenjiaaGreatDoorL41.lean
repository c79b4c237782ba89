/- Several texts in one: ObA, ModK, ModQ, ModR, ModS, ModN. -/
import Derived.Test.YteoonaanoenjiaaGreatDoorL40
namespace Go.Proofs.YteoonaanoenjiaaGreatDoor
set_option linter.unusedVariables false
set_option linter.unusedSimpArgs false
set_option maxRecDepth 100000
set_option maxHeartbeats 8000000
section
open Go.Value renaming int → J
open Go.IntKind renaming i64 → Y
open Go.RowKit Go.Sort
variable {k:Nat} {a:Option Addr} {t:TypeId} {w w' w1 w2:World}
theorem iG{B:Nat}{S:List D3}(h:w.ownsRow B 111 3 (.slice a S.length k) S.length (bJ S)):bi w a S S.length∧(S.length≤k∧k≤maxLen∨S.length=0∧k=0):=by
 rcases h.2 with ⟨h1,h0⟩ | ⟨g,cap,cur,e,hb,hg,h1,h2,h3,h4⟩
 ·injection h1 with e1 e2 e3;exact⟨.inl h0,.inr ⟨h0,e3⟩⟩
 ·injection e with e1 e2 e3;subst e1 e3;refine⟨.inr ⟨g,0,rfl,(Array.getElem?_eq_some_iff.1 hg).1,fun i hi=>?_⟩,.inl ⟨h1,h2⟩⟩
  have hf:∀(S:List D3) (i:Nat),i<S.length→(bJ S)[i*3]? = some (J Y (vA S i).1)∧(bJ S)[i*3+1]? = some (J Y (vA S i).2.1)∧(bJ S)[i*3+2]? = some (J Y (vA S i).2.2):=by
   intro S
   induction S with
   | nil=>intro i hi;simp at hi
   | cons x S ih=>
    intro i hi;have ex:bJ (x :: S)=Ix x ++ bJ S:=by unfold bJ;simp
    rw[ex];cases i with
    | zero=>exact⟨rfl,rfl,rfl⟩
    | succ i=>
     have hv:vA (x :: S) (i+1)=vA S i:=by unfold vA;simp
     rw[hv];have hl:(Ix x).length=3:=rfl;have:=ih i (by simpa using hi);refine⟨?_,?_,?_⟩
     ·rw[List.getElem?_append_right (by omega),hl,show (i+1)*3-3=i*3 by omega];exact this.1
     ·rw[List.getElem?_append_right (by omega),hl,show (i+1)*3+1-3=i*3+1 by omega];exact this.2.1
     ·rw[List.getElem?_append_right (by omega),hl,show (i+1)*3+2-3=i*3+2 by omega];exact this.2.2
  obtain⟨g0,g1,g2⟩:=hf S i hi
  have cl:∀j u,j<S.length*3→(bJ S)[j]? = some u→w.cell? ⟨g,j,none⟩=some u:=by
   intro j u hj hu;rw[cell_of_row w g j cur _ _ hg];rw[←h4,List.getElem?_take,if_pos hj]at hu;simpa using hu
  rw[Nat.zero_add];exact⟨cl _ _ (by omega) g0,cl _ _ (by omega) g1,cl _ _ (by omega) g2⟩
theorem bi.row{L:List D3}{n lo:Nat}{row:Option Nat}(h:bi w a L n)(hg:w.grownBy w' row)(hr:∀g,row=some g→lo≤g)(ha:∀y,a=some y→y.block<lo):bi w' a L n:=by
 rcases h with h | ⟨b,o,rfl,hb,hc⟩
 ·exact .inl h
 ·refine .inr ⟨b,o,rfl,Nat.lt_of_lt_of_le hb hg.size,fun i hi=>?_⟩;have e:w'.heap[b]? = w.heap[b]?:=hg.block b hb (fun e=>by have:=hr b e.symm;have:=ha _ rfl;dsimp only at this;omega);have hc':∀q,w'.cell? ⟨b,q,none⟩=w.cell? ⟨b,q,none⟩:=fun q=>by unfold World.cell?;rw[show w'.heap[(⟨b,q,none⟩:Addr).block]? = w.heap[(⟨b,q,none⟩:Addr).block]? from e]
  obtain⟨h0,h1,h2⟩:=hc i hi;exact⟨by rw[hc'];exact h0,by rw[hc'];exact h1,by rw[hc'];exact h2⟩
theorem Blk.row{b lo:Nat}{cs:List Value}{row:Option Nat}(h:Blk w b cs t)(hg:w.grownBy w' row)(hr:∀g,row=some g→lo≤g)(hb:b<lo):Blk w' b cs t:=
 (hg.block b h.lt (fun e=>by have:=hr b e.symm;omega)).trans h
structure kT (w wr:World) (lo:Nat) (a:Option Addr) (R:List D3):Prop where
 dirs:bi wr a R R.length
 far:∀y,a=some y→y.block<lo
 low:w.heap.size≤lo
 room:lo≤wr.heap.size
 bel:Below w.heap.size w wr
theorem kT.kept{lo:Nat}{R:List D3}(h:kT w w1 lo a R)(hb:Below w1.heap.size w1 w2):kT w w2 lo a R:=
 ⟨h.dirs.kept hb,h.far,h.low,Nat.le_trans h.room hb.size,aj h.bel hb⟩
theorem kT.row{lo:Nat}{R:List D3}{row:Option Nat}(h:kT w w1 lo a R)(hg:w1.grownBy w2 row)(hr:∀g,row=some g→lo≤g):kT w w2 lo a R:=
 ⟨h.dirs.row hg hr h.far,h.far,h.low,Nat.le_trans h.room hg.size,h.bel.trans ⟨hg.os,hg.tape,hg.output,hg.size,fun k hk=>hg.block k (by have:=h.low;have:=h.room;omega) (fun e=>by have:=hr k e.symm;have:=h.low;omega)⟩⟩
theorem sU(wd ht:Int)(s:ByteArray)(lv fo:Int):(be wd ht s lv fo).length≤8:=by
 unfold be;split
 ·have:=sw wd ht s fo (kR wd ht s lv);have:=oS wd ht s lv;omega
 ·simp
theorem qK{B n m:Nat}{c:Nat}{xs:List Value}(h:w.ownsRow B t m (.slice a n c) n xs)(y:Addr)(e:a=some y):B≤y.block∧y.block<w.heap.size:=by
 rcases h.2 with ⟨h1,_⟩ | ⟨g,c',cur,e',hb,hh,r⟩
 ·injection h1 with e1;rw[e1]at e;cases e
 ·injection e' with e1;rw[e1]at e;cases e;exact⟨hb,(Array.getElem?_eq_some_iff.1 hh).1⟩
theorem lM{R:List D3}{n:Nat}(h:bi w a R n)(hk:k<n):∃b o,a=some ⟨b,o,none⟩∧xv w b (o+k*3) (vA R k):=by
 rcases h with h | ⟨b,o,e,_,hc⟩
 ·omega
 ·exact⟨b,o,e,hc k hk⟩
theorem rD(wd ht:Int)(s:ByteArray)(lv fo:Int)(w:World)(hs:s.size≤maxLen):
  Calls Tryz.prog 72 #[.agg #[J Y wd,J Y ht,.string s,J Y lv,J Y fo]] w fun e w'=>(∃v,e=.returned v∧w'.ownsRow w.heap.size 111 3 v (gA (be wd ht s lv fo)).length (bJ (gA (be wd ht s lv fo))))∧Below w.heap.size w w':=by
 obtain⟨i0,hinf,hz0,hz1,hz2⟩:=info_parts nE;have hm8:400≤maxLen:=by decide +kernel
 have hRl:=sU wd ht s lv fo;have cB:=yz (fun W=>qk wd ht s lv fo W hs);generalize be wd ht s lv fo=R at *;have A0:=ap w [J Y wd,J Y ht,.string s,J Y lv,J Y fo] 126;have B0:=ak w (.cells #[J Y wd,J Y ht,.string s,J Y lv,J Y fo] 126);have f0:=gL (A0);have hl0:=A0.lt;go_enter Tryz.func72,Tryz.ntmps72;go_wp2_with fail;clear f0 A0;refine(yx cB _).mono ?_;rintro e W1 ⟨⟨v1,rfl,ho⟩,hx⟩;obtain⟨a1,c1,rfl⟩:=bM ho;have HST:Hid (kT w W1 W1.heap.size a1 R):=yz ⟨(iG ho).1,fun y e=>(qK ho y e).2,by have:=hx.size;omega,Nat.le_refl _,aj B0 hx⟩;have HO:Hid (W1.ownsRow W1.heap.size 111 3 (.slice none 0 0) (aY R 0).length (bJ (aY R 0))):=yz (World.ownsRow_nil _ _ _ _);clear ho hx B0 cB hl0;go_wp2_with fail;generalize W1.heap.size=lo at *;obtain⟨n,hn⟩:∃n,R.length=n:=⟨_,rfl⟩
 have HN:=yz hn;rw[hn]at hRl ⊢;clear hn;go_loopw [3,14] (fun v kk wr=>∃k:Nat,k≤n∧kk=J Y k∧Hid (wr.ownsRow lo 111 3 v (aY R k).length (bJ (aY R k)))∧Hid (kT w wr lo a1 R)) (fun _ kk _=>n-(intOf kk).toNat)
 case atStart=>exact⟨0,by omega,rfl,HO,HST⟩
 case round=>
  clear HO HST;obtain⟨k,hk,rfl,HO,HST⟩:=hrel;by_cases hkn:k<n
  ·have hkn2:(k:Int)<(n:Int):=by omega
   obtain⟨b,o,ha,c0,c1',c2⟩:=lM (yx HST).dirs (show k<R.length by rw[yx HN];exact hkn);subst ha;have HA:=yz (fun h1 h2=>vU (L:=R) (i:=k) h1 h2);have HS:=yz (fun h1=>xS (L:=R) (i:=k) h1);have HF:=yz (fun h1=>xR (L:=R) (i:=k) h1);have hfl:=(qE R k).1;obtain⟨⟨q1,q2,q3⟩,hq⟩:∃q,vA R k=q:=⟨_,rfl⟩
   rw[hq]at HA HS c0 c1' c2;dsimp only at c0 c1' c2;obtain⟨a3,c3,rfl⟩:=bM (yx HO);obtain⟨P2,hP2⟩:∃P2,aY R (k+1)=P2:=⟨_,rfl⟩
   rw[hP2]at HA HS HF;have HP:=yz hP2;clear hP2;generalize aY R k=P at *;have Z:=ak wr (.cells #[J Y q1,J Y q2,J Y q3] 111);have HST2:=an HST Z;have HO2:=yz (aW (yx HO) Z);have D2:=ap wr [J Y q1,J Y q2,J Y q3] 111;clear Z HST HO hq;obtain⟨m,hm⟩:∃m,P.length=m:=⟨_,rfl⟩
   have HM:=yz hm;rw[hm]at hfl HO2 HA HS HF ⊢;clear hm;obtain⟨d0,d1,d2⟩:=eP (D2);by_cases h6:m<6
   ·have h6':(m:Int)<6:=by omega
    have hd:decide ((m:Int)<6)=true:=decide_eq_true h6';have hdir:bi (wr.alloc (.cells #[J Y q1,J Y q2,J Y q3] 111)) a3 P m:=by have h:=yx HO2;rw[←yx HM]at h ⊢;exact(iG h).1
    have cA:=yz (pG P m q1 q2 q3 a3 c3 _ (by omega) hdir);clear hdir;go_wp2_with fail;clear c0 c1' c2 d0 d1 d2;refine(yx cA).mono ?_;rintro e W3 ⟨rfl,hx⟩;have HST3:=an HST2 hx;have HO3:=yz (aW (yx HO2) hx);have D3:=D2.kept hx;clear hx HST2 HO2 D2 cA;cases hq:eA P (q1,q2,q3) m
    ·have e0:=D3.cell 0 _ rfl;have e1:=D3.cell 1 _ rfl;have e2:=D3.cell 2 _ rfl;have Z1:=ak W3 (.cells #[J Y q1,J Y q2,J Y q3] 111);have hown:=aW (yx HO3) Z1;have ST4:=(yx HST3).kept Z1;have HP2:=yz (yx HA h6 hq);clear Z1 HO3 HST3 HA HS HF D3;go_wp2_with (at_builtin;refine wpList_append_own _ rfl _ _ 42 rfl lo 111 i0 (.agg #[J Y 0,J Y 0,J Y 0]) 3 24 Tryz.underlying42 hinf hz0 hz1 hz2 rfl (by decide) _ _ _ rfl hown ⟨W3.heap.size,0,none⟩ 1 1 (bJ [(q1,q2,q3)]) rfl rfl ?d2 (fun u hu=>kj hu) ?d3 ?d4 ?d5 ?_)
     case d2=>first | exact fun j u h=>h | exact fk _ _ _
     case d3=>omega
     case d4=>omega
     case d5=>have:=ST4.room;omega
     intro v7 V7 hown7 hgrow7 _;have HST5:=yz (ST4.row hgrow7 (fun g e=>(hown.lt g e).1));have HO5:Hid (V7.ownsRow lo 111 3 v7 (aY R (k+1)).length (bJ (aY R (k+1)))):=yz (by rw[yx HP,yx HP2,lN,List.length_append,yx HM];exact hown7);clear hown7 hgrow7 hown ST4 e0 e1 e2 HP2;go_wp2_with fail;go_roundw
     case rel=>exact⟨k+1,by omega,by go_num,HO5,HST5⟩
     case measure=>simp[intOf]<;>omega
    ·have HP2:=yz (yx HS hq);have HO5:Hid (W3.ownsRow lo 111 3 (.slice a3 m c3) (aY R (k+1)).length (bJ (aY R (k+1)))):=yz (by rw[yx HP,yx HP2,yx HM];exact yx HO3);clear HO3 HA HS HF D3 HP2;go_wp2_with fail;go_roundw
     case rel=>exact⟨k+1,by omega,by go_num,HO5,HST3⟩
     case measure=>simp[intOf]<;>omega
   ·have h6':¬(m:Int)<6:=by omega
    have hd:decide ((m:Int)<6)=false:=decide_eq_false h6';have HP2:=yz (yx HF h6);have HO5:Hid (World.ownsRow _ lo 111 3 (.slice a3 m c3) (aY R (k+1)).length (bJ (aY R (k+1)))):=yz (by rw[yx HP,yx HP2,yx HM];exact yx HO2);clear HO2 HA HS HF HP2;go_wp2_with fail;go_roundw
    case rel=>exact⟨k+1,by omega,by go_num,HO5,HST2⟩
    case measure=>simp[intOf]<;>omega
  ·have hkn':k=n:=by omega
   subst hkn';go_wp2_with fail;go_ret;refine⟨⟨_,rfl,?_⟩,(yx HST).bel⟩;unfold gA;rw[yx HN];exact eT (yx HO) (yx HST).low
end
section
open Go.Value renaming int → J
open Go.IntKind renaming i64 → Z
open Go.RowKit Go.Sort
theorem tH(L:List St)(lim mode A B C D coast fr:Int)(ad:Option Addr)(c:Nat)(p:Addr)(w:World)(hn:L.length≤1048576)(hcap:L.length≤c)(hc9:c≤9223372036854775807)(hE:bm p w)(hS:aH w ad L L.length):
  Calls Tryz.prog 69 #[.agg #[.slice ad L.length c,J Z lim,J Z mode,J Z A,J Z B,J Z C,J Z D,J Z coast,J Z fr]] w fun e w'=>jx w' w.heap.size (fL ⟨L,lim,mode,A,B,C,D,coast,fr⟩) (gh ⟨L,lim,mode,A,B,C,D,coast,fr⟩) e∧Below w.heap.size w w':=by
 have B0:=aF w (.cells #[.slice ad L.length c,J Z lim,J Z mode,J Z A,J Z B,J Z C,J Z D,J Z coast,J Z fr] 37) (.cells #[.slice none 0 0,J Z 0,J Z 0,J Z 0,J Z 0,J Z 0,J Z 0,J Z 0,J Z 0,J Z 0] 39);have T0:=(bL w (.slice ad L.length c) lim mode A B C D coast fr 37).kept (ak _ (.cells #[.slice none 0 0,J Z 0,J Z 0,J Z 0,J Z 0,J Z 0,J Z 0,J Z 0,J Z 0,J Z 0] 39));have R0:=(by simpa using qS (w.alloc (.cells #[.slice ad L.length c,J Z lim,J Z mode,J Z A,J Z B,J Z C,J Z D,J Z coast,J Z fr] 37)) (.slice none 0 0) 0 0 0 0 0 0 0 0 0 39:TkO ((w.alloc (.cells #[.slice ad L.length c,J Z lim,J Z mode,J Z A,J Z B,J Z C,J Z D,J Z coast,J Z fr] 37)).alloc (.cells #[.slice none 0 0,J Z 0,J Z 0,J Z 0,J Z 0,J Z 0,J Z 0,J Z 0,J Z 0,J Z 0] 39)) (w.heap.size+1) (.slice none 0 0) 0 0 0 0 0 0 0 0 0)
 have G0:=(by simpa using dS (w.alloc (.cells #[.slice ad L.length c,J Z lim,J Z mode,J Z A,J Z B,J Z C,J Z D,J Z coast,J Z fr] 37)) #[.slice none 0 0,J Z 0,J Z 0,J Z 0,J Z 0,J Z 0,J Z 0,J Z 0,J Z 0,J Z 0] 39:fM ((w.alloc (.cells #[.slice ad L.length c,J Z lim,J Z mode,J Z A,J Z B,J Z C,J Z D,J Z coast,J Z fr] 37)).alloc (.cells #[.slice none 0 0,J Z 0,J Z 0,J Z 0,J Z 0,J Z 0,J Z 0,J Z 0,J Z 0,J Z 0] 39)) (w.heap.size+1))
 have hsz:w.heap.size+2≤((w.alloc (.cells #[.slice ad L.length c,J Z lim,J Z mode,J Z A,J Z B,J Z C,J Z D,J Z coast,J Z fr] 37)).alloc (.cells #[.slice none 0 0,J Z 0,J Z 0,J Z 0,J Z 0,J Z 0,J Z 0,J Z 0,J Z 0,J Z 0] 39)).heap.size:=by simp
 have S0:=hS.kept B0;have cR:=yz (fP L lim mode A B C D coast fr ad c p _ hn hcap hc9 S0 (hE.kept B0));have cC:=yz (fun W h=>kG L lim mode A B C D coast fr ad c W hn h);have HB:=yz B0;have HT:=yz T0;have HR:=yz R0;have HG:=yz G0;have HS:=yz S0;clear B0 T0 R0 G0 S0 hS;go_enter Tryz.func69,Tryz.ntmps69;go_wp2_with fail;generalize (w.alloc (.cells #[.slice ad L.length c,J Z lim,J Z mode,J Z A,J Z B,J Z C,J Z D,J Z coast,J Z fr] 37)).alloc (.cells #[.slice none 0 0,J Z 0,J Z 0,J Z 0,J Z 0,J Z 0,J Z 0,J Z 0,J Z 0,J Z 0] 39)=W at *;refine(yx cR).mono ?_;rintro e w1 ⟨rfl,hx⟩;have B1:=aA HB hx;have T1:=an HT hx;have R1:=an HR hx;have G1:=yz ((yx HG).kept (yx HR).lt hx);have S1:=an HS hx;have hsz1:w.heap.size+2≤w1.heap.size:=Nat.le_trans hsz hx.size;clear hx HB HT HR HG HS hsz cR;cases hk:aZ ⟨L,lim,mode,A,B,C,D,coast,fr⟩
 ·have HO1:Hid (fL ⟨L,lim,mode,A,B,C,D,coast,fr⟩=eh):=yz (by unfold fL;rw[hk];rfl);have HO2:Hid (gh ⟨L,lim,mode,A,B,C,D,coast,fr⟩=1):=yz (by unfold gh;rw[hk];rfl);have B2:=B1;have R2:=R1;have G2:=G1;clear B1 R1 G1;obtain⟨⟨r0,r1,r2,r3,r4,r5,r6,r7,r8⟩,r9⟩:=yx R2;have g0:=yx G2 0;have g1:=yx G2 1;have g2:=yx G2 2;have g3:=yx G2 3;have g4:=yx G2 4;have g5:=yx G2 5;have g6:=yx G2 6;have g7:=yx G2 7;have g8:=yx G2 8;have g9:=yx G2 9;go_wp2_with fail;clear r0 r1 r2 r3 r4 r5 r6 r7 r8 r9 g0 g1 g2 g3 g4 g5 g6 g7 g8 g9;refine bodyPost_ret (v:=.agg #[.slice none 0 0,J Z 0,J Z 0,J Z 0,J Z 0,J Z 0,J Z 0,J Z 0,J Z 0,J Z 1]) ?_ rfl ⟨?_,?_⟩
  ·refine sD _ _ (w.heap.size+1) _ 0 0 0 0 0 0 0 0 1 rfl ?_;exact dV (yx R2) _ _ _ _ _ _ _ _ _ _
  ·rw[yx HO1,yx HO2];exact dL _ _ _
  ·iterate 10 (refine aB ?_ (show w.heap.size≤w.heap.size+1 by omega) _ _)
   exact yx B2
 ·have HO1:Hid (fL ⟨L,lim,mode,A,B,C,D,coast,fr⟩=⟨L,lim,0,0,0,0,0,0,fr⟩):=yz (by unfold fL;rw[hk];rfl);have HO2:Hid (gh ⟨L,lim,mode,A,B,C,D,coast,fr⟩=0):=yz (by unfold gh;rw[hk];rfl);clear hk;obtain⟨s0,s1,s2,s3,s4,s5,s6,s7,s8⟩:=yx T1;go_wp2_with fail;clear s0 s1 s2 s3 s4 s5 s6 s7 s8;refine(yx cC _ (yx S1)).mono ?_;rintro e w2 ⟨a,cap,rfl,hC,hx⟩;have B2:=aA B1 hx;have R2:=an R1 hx;have G2:=yz ((yx G1).kept (yx R1).lt hx);have C2:=yz (hC.low (B':=w.heap.size+2) (by omega));clear hx hC B1 R1 G1 T1 S1 cC;go_wp2_with fail;refine(mc lim mode A B C D coast fr a L.length cap _).mono ?_;rintro e w2b ⟨rfl,hx⟩;have B2b:=aA B2 hx;have R2b:=an R2 hx;have G2b:=yz ((yx G2).kept (yx R2).lt hx);have C2b:=an C2 hx;clear hx B2 R2 G2 C2;go_wp2_with fail;refine(oh lim 0 0 0 0 0 0 fr a L.length cap _).mono ?_;rintro e w3 ⟨rfl,hx⟩;have B3:=aA B2b hx;have R3:=an R2b hx;have G3:=yz ((yx G2b).kept (yx R2b).lt hx);have C3:=an C2b hx;clear hx B2b R2b G2b C2b;obtain⟨⟨r0,r1,r2,r3,r4,r5,r6,r7,r8⟩,r9⟩:=yx R3;have g0:=yx G3 0;have g1:=yx G3 1;have g2:=yx G3 2;have g3:=yx G3 3;have g4:=yx G3 4;have g5:=yx G3 5;have g6:=yx G3 6;have g7:=yx G3 7;have g8:=yx G3 8;have g9:=yx G3 9;go_wp2_with fail;clear r0 r1 r2 r3 r4 r5 r6 r7 r8 r9 g0 g1 g2 g3 g4 g5 g6 g7 g8 g9;refine bodyPost_ret (v:=.agg #[.slice a L.length cap,J Z lim,J Z 0,J Z 0,J Z 0,J Z 0,J Z 0,J Z 0,J Z fr,J Z 0]) ?_ rfl ⟨?_,?_⟩
  ·refine sD _ _ (w.heap.size+1) _ lim 0 0 0 0 0 0 fr 0 rfl ?_;exact dV (yx R3) _ _ _ _ _ _ _ _ _ _
  ·rw[yx HO1,yx HO2];refine⟨a,cap,rfl,?_⟩;refine ay.low (B:=w.heap.size+2) ?_ (by omega);iterate 10 (refine ay.far ?_ (show w.heap.size+1<w.heap.size+2 by omega) _ _)
   exact yx C3
  ·iterate 10 (refine aB ?_ (show w.heap.size≤w.heap.size+1 by omega) _ _)
   exact yx B3
def zP(g1 g2 g3 g4 a b c d:Int):Int:=coP g1 g2 g3 g4 a b c d (coA g1 g2 g3 g4 a b c d)
def zQ(g1 g2 g3 g4 a b c d:Int):Int:=coP g1 g2 g3 g4 a b c d (coB g1 g2 g3 g4 a b c d)
def zR(g1 g2 g3 g4 a b c d:Int):Int:=coP g1 g2 g3 g4 a b c d (coC g1 g2 g3 g4 a b c d)
def zS(g1 g2 g3 g4 a b c d:Int):Int:=coP g1 g2 g3 g4 a b c d (coD g1 g2 g3 g4 a b c d)
def dn(t:Tk)(g1 g2 g3 g4:Int):Tk:=if t.mode=0 then t else if coK g1 g2 g3 g4 t.A t.B t.C t.D=0 then { t with A:=zP g1 g2 g3 g4 t.A t.B t.C t.D,B:=zQ g1 g2 g3 g4 t.A t.B t.C t.D,C:=zR g1 g2 g3 g4 t.A t.B t.C t.D,D:=zS g1 g2 g3 g4 t.A t.B t.C t.D } else Fi t
def tkV(a:Option Addr)(n c:Nat)(t:Tk):Value:=.agg #[.slice a n c,J Z t.lim,J Z t.mode,J Z t.A,J Z t.B,J Z t.C,J Z t.D,J Z t.coast,J Z t.fr]
theorem CF(g1 g2 g3 g4 a b c d:Int)(w:World):
  Calls Tryz.prog 148 #[.agg #[J Z g1,J Z g2,J Z g3,J Z g4],.agg #[J Z a,J Z b,J Z c,J Z d]] w fun e w'=>e=.returned (.agg #[J Z (zP g1 g2 g3 g4 a b c d),J Z (zQ g1 g2 g3 g4 a b c d),J Z (zR g1 g2 g3 g4 a b c d),J Z (zS g1 g2 g3 g4 a b c d),J Z (coK g1 g2 g3 g4 a b c d)])∧Below w.heap.size w w':=xH g1 g2 g3 g4 a b c d w
theorem wt(g1 g2 g3 g4 a b c d:Int)(w:World)(hg:aE g1 g2 g3 g4=true)(ht:aE a b c d=true):
  Calls Tryz.prog 107 #[.agg #[J Z g1,J Z g2,J Z g3,J Z g4],.agg #[J Z a,J Z b,J Z c,J Z d]] w fun e w'=>e=.returned (.agg #[J Z (zP g1 g2 g3 g4 a b c d),J Z (zQ g1 g2 g3 g4 a b c d),J Z (zR g1 g2 g3 g4 a b c d),J Z (zS g1 g2 g3 g4 a b c d),J Z (coK g1 g2 g3 g4 a b c d)])∧Below w.heap.size w w':=by
 refine(rS g1 g2 g3 g4 a b c d w (du.1 hg).1 (du.1 ht).1).mono fun e w' h=>⟨?_,h.2⟩
 rw[h.1,←IJ (by unfold coR;rw[hg,ht];rfl)];rfl
theorem sG(T:Array Value)(X:World)(b:Nat)(v:Value)(lim mode A B C D coast fr:Int)(hT:T.getD 4 undef=.pointer (some ⟨b,0,none⟩))(h:dk X b v lim mode A B C D coast fr):(results Tryz.f113 T).run Tryz.prog X=.ok (.agg #[v,J Z lim,J Z mode,J Z A,J Z B,J Z C,J Z D,J Z coast,J Z fr]) X:=by
 obtain⟨h0,h1,h2,h3,h4,h5,h6,h7,h8⟩:=h;simp only[Array.getD_eq_getD_getElem?]at hT;simp[results,Tryz.results113,go_sem,hT,h0,h1,h2,h3,h4,h5,h6,h7,h8]
theorem xr(L:List St)(lim mode A B C D coast fr g1 g2 g3 g4:Int)(a:Option Addr)(n c:Nat)(w:World):
  Calls Tryz.prog 113 #[.agg #[.slice a n c,J Z lim,J Z mode,J Z A,J Z B,J Z C,J Z D,J Z coast,J Z fr],.agg #[J Z g1,J Z g2,J Z g3,J Z g4]] w fun e w'=>e=.returned (tkV a n c (dn ⟨L,lim,mode,A,B,C,D,coast,fr⟩ g1 g2 g3 g4))∧Below w.heap.size w w':=by
 by_cases hm:mode=0
 ·have HO:Hid (tkV a n c (dn ⟨L,lim,mode,A,B,C,D,coast,fr⟩ g1 g2 g3 g4)=.agg #[.slice a n c,J Z lim,J Z mode,J Z A,J Z B,J Z C,J Z D,J Z coast,J Z fr]):=yz (by unfold dn tkV;rw[if_pos hm]);go_enter Tryz.func113,Tryz.ntmps113;go_wp2;rw[yx HO];subst hm;exact bodyPost_ret (v:=.agg #[.slice a n c,J Z lim,J Z 0,J Z A,J Z B,J Z C,J Z D,J Z coast,J Z fr]) (by simp[results,Tryz.results113,go_sem]) rfl ⟨rfl,bq _ _ _ _⟩
 have B0:=bq w (.cells #[.slice a n c,J Z lim,J Z mode,J Z A,J Z B,J Z C,J Z D,J Z coast,J Z fr] 92) (.cells #[J Z g1,J Z g2,J Z g3,J Z g4] 35) (.cells #[.slice none 0 0,J Z 0,J Z 0,J Z 0,J Z 0,J Z 0,J Z 0,J Z 0,J Z 0] 92);have Z2:=aF (w.alloc (.cells #[.slice a n c,J Z lim,J Z mode,J Z A,J Z B,J Z C,J Z D,J Z coast,J Z fr] 92)) (.cells #[J Z g1,J Z g2,J Z g3,J Z g4] 35) (.cells #[.slice none 0 0,J Z 0,J Z 0,J Z 0,J Z 0,J Z 0,J Z 0,J Z 0,J Z 0] 92);have T0:=(bL w (.slice a n c) lim mode A B C D coast fr 92).kept Z2;have F0:=(dS w #[.slice a n c,J Z lim,J Z mode,J Z A,J Z B,J Z C,J Z D,J Z coast,J Z fr] 92).kept (by simp) Z2;have R0:=(by simpa using bL ((w.alloc (.cells #[.slice a n c,J Z lim,J Z mode,J Z A,J Z B,J Z C,J Z D,J Z coast,J Z fr] 92)).alloc (.cells #[J Z g1,J Z g2,J Z g3,J Z g4] 35)) (.slice none 0 0) 0 0 0 0 0 0 0 0 92:dk (((w.alloc (.cells #[.slice a n c,J Z lim,J Z mode,J Z A,J Z B,J Z C,J Z D,J Z coast,J Z fr] 92)).alloc (.cells #[J Z g1,J Z g2,J Z g3,J Z g4] 35)).alloc (.cells #[.slice none 0 0,J Z 0,J Z 0,J Z 0,J Z 0,J Z 0,J Z 0,J Z 0,J Z 0] 92)) (w.heap.size+1+1) (.slice none 0 0) 0 0 0 0 0 0 0 0)
 have G0:=(by simpa using dS ((w.alloc (.cells #[.slice a n c,J Z lim,J Z mode,J Z A,J Z B,J Z C,J Z D,J Z coast,J Z fr] 92)).alloc (.cells #[J Z g1,J Z g2,J Z g3,J Z g4] 35)) #[.slice none 0 0,J Z 0,J Z 0,J Z 0,J Z 0,J Z 0,J Z 0,J Z 0,J Z 0] 92:fM (((w.alloc (.cells #[.slice a n c,J Z lim,J Z mode,J Z A,J Z B,J Z C,J Z D,J Z coast,J Z fr] 92)).alloc (.cells #[J Z g1,J Z g2,J Z g3,J Z g4] 35)).alloc (.cells #[.slice none 0 0,J Z 0,J Z 0,J Z 0,J Z 0,J Z 0,J Z 0,J Z 0,J Z 0] 92)) (w.heap.size+1+1))
 have HB:=yz B0;have HT:=yz T0;have HF:=yz F0;have HR:=yz R0;have HG:=yz G0;have hO1:coK g1 g2 g3 g4 A B C D=0→Hid (tkV a n c (dn ⟨L,lim,mode,A,B,C,D,coast,fr⟩ g1 g2 g3 g4)=.agg #[.slice a n c,J Z lim,J Z mode,J Z (zP g1 g2 g3 g4 A B C D),J Z (zQ g1 g2 g3 g4 A B C D),J Z (zR g1 g2 g3 g4 A B C D),J Z (zS g1 g2 g3 g4 A B C D),J Z coast,J Z fr]):=fun h=>yz (by unfold dn tkV;rw[if_neg hm,if_pos h]);have hO2:coK g1 g2 g3 g4 A B C D≠0→Hid (tkV a n c (dn ⟨L,lim,mode,A,B,C,D,coast,fr⟩ g1 g2 g3 g4)=.agg #[.slice a n c,J Z lim,J Z 0,J Z 0,J Z 0,J Z 0,J Z 0,J Z 0,J Z fr]):=fun h=>yz (by unfold dn tkV;rw[if_neg hm,if_neg h];rfl);have cX:=yz (fun W=>CF g1 g2 g3 g4 A B C D W);generalize zP g1 g2 g3 g4 A B C D=P1 at *;generalize zQ g1 g2 g3 g4 A B C D=P2 at *;generalize zR g1 g2 g3 g4 A B C D=P3 at *;generalize zS g1 g2 g3 g4 A B C D=P4 at *;generalize coK g1 g2 g3 g4 A B C D=Pk at *;clear B0 Z2 T0 F0 R0 G0;go_enter Tryz.func113,Tryz.ntmps113;go_wp2_with fail;refine(yx cX _).mono ?_;rintro e w1 ⟨rfl,hx⟩;have Z1:=ak w1 (.cells #[J Z P1,J Z P2,J Z P3,J Z P4,J Z Pk] 156);have B1:=aA (aA HB hx) Z1;have T1:=aI HT hx Z1;have F1:=yz (((yx HF).kept (yx HT).lt hx).kept ((yx HT).kept hx).lt Z1);have R1:=aI HR hx Z1;have G1:=yz (((yx HG).kept (yx HR).lt hx).kept ((yx HR).kept hx).lt Z1);have O1:=gV w1 P1 P2 P3 P4 Pk 156;clear hx Z1 HB HT HF HR HG cX;obtain⟨o0,o1,o2,o3,o4⟩:=O1;by_cases hk:Pk=0
 ·have HO:=hO1 hk;clear hO1 hO2;subst hk;obtain⟨s0,s1,s2,s3,s4,s5,s6,s7,s8⟩:=yx T1;obtain⟨r0,r1,r2,r3,r4,r5,r6,r7,r8⟩:=yx R1;have f3:=yx F1 3;have f4:=yx F1 4;have f5:=yx F1 5;have f6:=yx F1 6;have g0:=yx G1 0;have q1:=yx G1 1;have q2:=yx G1 2;have q3:=yx G1 3;have q4:=yx G1 4;have q5:=yx G1 5;have q6:=yx G1 6;have q7:=yx G1 7;have q8:=yx G1 8;go_wp2_with fail;clear s0 s1 s2 s3 s4 s5 s6 s7 s8 r0 r1 r2 r3 r4 r5 r6 r7 r8 f3 f4 f5 f6 g0 q1 q2 q3 q4 q5 q6 q7 q8 o0 o1 o2 o3 o4;rw[yx HO];refine bodyPost_ret (v:=.agg #[.slice a n c,J Z lim,J Z mode,J Z P1,J Z P2,J Z P3,J Z P4,J Z coast,J Z fr]) ?_ rfl ⟨rfl,?_⟩
  ·refine sG _ _ (w.heap.size+1+1) _ lim mode P1 P2 P3 P4 coast fr rfl ?_;refine dU (lim0:=0) (mode0:=0) (A0:=0) (B0:=0) (C0:=0) (D0:=0) (coast0:=0) (fr0:=0) (u:=.slice none 0 0) ?_ _ lim mode P1 P2 P3 P4 coast fr;iterate 4 (refine dk.far ?_ (show w.heap.size+1+1≠w.heap.size by omega) _ _)
   exact yx R1
  ·iterate 9 (refine aB ?_ (show w.heap.size≤w.heap.size+1+1 by omega) _ _)
   iterate 4 (refine aB ?_ (Nat.le_refl w.heap.size) _ _)
   exact yx B1
 ·have HO:=hO2 hk;clear hO1 hO2;obtain⟨s0,s1,s2,s3,s4,s5,s6,s7,s8⟩:=yx T1;go_wp2_with fail;clear s0 s1 s2 s3 s4 s5 s6 s7 s8 o0 o1 o2 o3 o4;refine(mc lim mode A B C D coast fr a n c _).mono ?_;rintro e w2 ⟨rfl,hx⟩;have B2:=aA B1 hx;have R2:=an R1 hx;have G2:=yz ((yx G1).kept (yx R1).lt hx);clear hx B1 R1 G1 T1 F1;obtain⟨r0,r1,r2,r3,r4,r5,r6,r7,r8⟩:=yx R2;have q0:=yx G2 0;have q1:=yx G2 1;have q2:=yx G2 2;have q3:=yx G2 3;have q4:=yx G2 4;have q5:=yx G2 5;have q6:=yx G2 6;have q7:=yx G2 7;have q8:=yx G2 8;go_wp2_with fail;clear r0 r1 r2 r3 r4 r5 r6 r7 r8 q0 q1 q2 q3 q4 q5 q6 q7 q8;rw[yx HO];refine bodyPost_ret (v:=.agg #[.slice a n c,J Z lim,J Z 0,J Z 0,J Z 0,J Z 0,J Z 0,J Z 0,J Z fr]) ?_ rfl ⟨rfl,?_⟩
  ·refine sG _ _ (w.heap.size+1+1) _ lim 0 0 0 0 0 0 fr rfl ?_;exact dU (lim0:=0) (mode0:=0) (A0:=0) (B0:=0) (C0:=0) (D0:=0) (coast0:=0) (fr0:=0) (u:=.slice none 0 0) (yx R2) _ lim 0 0 0 0 0 0 fr
  ·iterate 9 (refine aB ?_ (show w.heap.size≤w.heap.size+1+1 by omega) _ _)
   exact yx B2
def il(t:Tk)(g1 g2 g3 g4:Int):Bool:=aZ t&&aE g1 g2 g3 g4
def iu(t:Tk)(g1 g2 g3 g4:Int):Tk:=if il t g1 g2 g3 g4=true then dn t g1 g2 g3 g4 else eh
def iQ(t:Tk)(g1 g2 g3 g4:Int):Int:=if il t g1 g2 g3 g4=true then 0 else 1
theorem zy(t:Tk)(g1 g2 g3 g4:Int):(dn t g1 g2 g3 g4).L=t.L:=by
 unfold dn;split
 ·rfl
 ·split<;>rfl
theorem ay.off{w:World}{B:Nat}{L:List St}{a:Option Addr}{cap:Nat}(h:ay w B L a cap){b:Nat}(hne:∀x,a=some x→x.block≠b)(o:Nat)(y:Value):ay (w.setCell ⟨b,o,none⟩ y) B L a cap:=by
 obtain⟨h1,h2⟩:=h;refine⟨h1,?_⟩;rcases h2 with h2 | ⟨g,c',cur,e,hg,hh,r⟩
 ·exact .inl h2
 ·injection e with e1 e2 e3;exact .inr ⟨g,c',cur,by rw[e1,e2,e3],hg,by rw[Below.heap_setCell w ⟨b,o,none⟩ y g (fun e=>hne _ e1 e)];exact hh,r⟩
theorem jT(T:Array Value)(X:World)(b:Nat)(v:Value)(lim mode A B C D coast fr code:Int)(hT:T.getD 4 undef=.pointer (some ⟨b,0,none⟩))(h:TkO X b v lim mode A B C D coast fr code):(results Tryz.f63 T).run Tryz.prog X=.ok (.agg #[v,J Z lim,J Z mode,J Z A,J Z B,J Z C,J Z D,J Z coast,J Z fr,J Z code]) X:=by
 obtain⟨⟨h0,h1,h2,h3,h4,h5,h6,h7,h8⟩,h9⟩:=h;simp only[Array.getD_eq_getD_getElem?]at hT;simp[results,Tryz.results63,go_sem,hT,h0,h1,h2,h3,h4,h5,h6,h7,h8,h9]
theorem oT(T:Array Value)(X:World)(b:Nat)(v:Value)(lim mode A B C D coast fr code:Int)(hT:T.getD 4 undef=.pointer (some ⟨b,0,none⟩))(h:TkO X b v lim mode A B C D coast fr code):(results Tryz.f70 T).run Tryz.prog X=.ok (.agg #[v,J Z lim,J Z mode,J Z A,J Z B,J Z C,J Z D,J Z coast,J Z fr,J Z code]) X:=by
 obtain⟨⟨h0,h1,h2,h3,h4,h5,h6,h7,h8⟩,h9⟩:=h;simp only[Array.getD_eq_getD_getElem?]at hT;simp[results,Tryz.results70,go_sem,hT,h0,h1,h2,h3,h4,h5,h6,h7,h8,h9]
theorem xf(L:List St)(lim mode A B C D coast fr g1 g2 g3 g4:Int)(ad:Option Addr)(c:Nat)(w:World)(hn:L.length≤1048576)(hS:aH w ad L L.length):
  Calls Tryz.prog 63 #[.agg #[.slice ad L.length c,J Z lim,J Z mode,J Z A,J Z B,J Z C,J Z D,J Z coast,J Z fr],.agg #[J Z g1,J Z g2,J Z g3,J Z g4]] w fun e w'=>jx w' w.heap.size (iu ⟨L,lim,mode,A,B,C,D,coast,fr⟩ g1 g2 g3 g4) (iQ ⟨L,lim,mode,A,B,C,D,coast,fr⟩ g1 g2 g3 g4) e∧Below w.heap.size w w':=by
 have B0:=bq w (.cells #[.slice ad L.length c,J Z lim,J Z mode,J Z A,J Z B,J Z C,J Z D,J Z coast,J Z fr] 37) (.cells #[J Z g1,J Z g2,J Z g3,J Z g4] 35) (.cells #[.slice none 0 0,J Z 0,J Z 0,J Z 0,J Z 0,J Z 0,J Z 0,J Z 0,J Z 0,J Z 0] 39);have Z2:=aF (w.alloc (.cells #[.slice ad L.length c,J Z lim,J Z mode,J Z A,J Z B,J Z C,J Z D,J Z coast,J Z fr] 37)) (.cells #[J Z g1,J Z g2,J Z g3,J Z g4] 35) (.cells #[.slice none 0 0,J Z 0,J Z 0,J Z 0,J Z 0,J Z 0,J Z 0,J Z 0,J Z 0,J Z 0] 39);have T0:=(bL w (.slice ad L.length c) lim mode A B C D coast fr 37).kept Z2;have U0:=(by simpa using bh (w.alloc (.cells #[.slice ad L.length c,J Z lim,J Z mode,J Z A,J Z B,J Z C,J Z D,J Z coast,J Z fr] 37)) g1 g2 g3 g4 35:bd ((w.alloc (.cells #[.slice ad L.length c,J Z lim,J Z mode,J Z A,J Z B,J Z C,J Z D,J Z coast,J Z fr] 37)).alloc (.cells #[J Z g1,J Z g2,J Z g3,J Z g4] 35)) (w.heap.size+1) g1 g2 g3 g4).alloc (.cells #[.slice none 0 0,J Z 0,J Z 0,J Z 0,J Z 0,J Z 0,J Z 0,J Z 0,J Z 0,J Z 0] 39);have R0:=(by simpa using qS ((w.alloc (.cells #[.slice ad L.length c,J Z lim,J Z mode,J Z A,J Z B,J Z C,J Z D,J Z coast,J Z fr] 37)).alloc (.cells #[J Z g1,J Z g2,J Z g3,J Z g4] 35)) (.slice none 0 0) 0 0 0 0 0 0 0 0 0 39:TkO (((w.alloc (.cells #[.slice ad L.length c,J Z lim,J Z mode,J Z A,J Z B,J Z C,J Z D,J Z coast,J Z fr] 37)).alloc (.cells #[J Z g1,J Z g2,J Z g3,J Z g4] 35)).alloc (.cells #[.slice none 0 0,J Z 0,J Z 0,J Z 0,J Z 0,J Z 0,J Z 0,J Z 0,J Z 0,J Z 0] 39)) (w.heap.size+1+1) (.slice none 0 0) 0 0 0 0 0 0 0 0 0)
 have G0:=(by simpa using dS ((w.alloc (.cells #[.slice ad L.length c,J Z lim,J Z mode,J Z A,J Z B,J Z C,J Z D,J Z coast,J Z fr] 37)).alloc (.cells #[J Z g1,J Z g2,J Z g3,J Z g4] 35)) #[.slice none 0 0,J Z 0,J Z 0,J Z 0,J Z 0,J Z 0,J Z 0,J Z 0,J Z 0,J Z 0] 39:fM (((w.alloc (.cells #[.slice ad L.length c,J Z lim,J Z mode,J Z A,J Z B,J Z C,J Z D,J Z coast,J Z fr] 37)).alloc (.cells #[J Z g1,J Z g2,J Z g3,J Z g4] 35)).alloc (.cells #[.slice none 0 0,J Z 0,J Z 0,J Z 0,J Z 0,J Z 0,J Z 0,J Z 0,J Z 0,J Z 0] 39)) (w.heap.size+1+1))
 have hsz:w.heap.size+3≤(((w.alloc (.cells #[.slice ad L.length c,J Z lim,J Z mode,J Z A,J Z B,J Z C,J Z D,J Z coast,J Z fr] 37)).alloc (.cells #[J Z g1,J Z g2,J Z g3,J Z g4] 35)).alloc (.cells #[.slice none 0 0,J Z 0,J Z 0,J Z 0,J Z 0,J Z 0,J Z 0,J Z 0,J Z 0,J Z 0] 39)).heap.size:=by simp
 have S0:=hS.kept B0;have cR:=yz (fun W h=>fR L lim mode A B C D coast fr ad c W hn h);have cC:=yz (fun W h=>jk L lim mode A B C D coast fr ad c W hn h);have HB:=yz B0;have HT:=yz T0;have HU:=yz U0;have HR:=yz R0;have HG:=yz G0;have HS:=yz S0;clear B0 T0 U0 R0 G0 S0 Z2 hS;go_enter Tryz.func63,Tryz.ntmps63;go_wp2_with fail;generalize hW:((w.alloc (.cells #[.slice ad L.length c,J Z lim,J Z mode,J Z A,J Z B,J Z C,J Z D,J Z coast,J Z fr] 37)).alloc (.cells #[J Z g1,J Z g2,J Z g3,J Z g4] 35)).alloc (.cells #[.slice none 0 0,J Z 0,J Z 0,J Z 0,J Z 0,J Z 0,J Z 0,J Z 0,J Z 0,J Z 0] 39)=W at *;clear hW;refine(yx cR _ (yx HS)).mono ?_;rintro e w1 ⟨rfl,hx⟩;have B1:=aA HB hx;have T1:=an HT hx;have U1:=yz ((yx HU).kept (yx HU).lt hx);have R1:=an HR hx;have G1:=yz ((yx HG).kept (yx HR).lt hx);have S1:=an HS hx;have hsz1:w.heap.size+3≤w1.heap.size:=Nat.le_trans hsz hx.size;clear hx HB HT HU HR HG HS hsz cR;have hill:il ⟨L,lim,mode,A,B,C,D,coast,fr⟩ g1 g2 g3 g4=false→Hid (iu ⟨L,lim,mode,A,B,C,D,coast,fr⟩ g1 g2 g3 g4=eh)∧Hid (iQ ⟨L,lim,mode,A,B,C,D,coast,fr⟩ g1 g2 g3 g4=1):=fun h=>⟨yz (by unfold iu;rw[h];rfl),yz (by unfold iQ;rw[h];rfl)⟩
 cases hk:aZ ⟨L,lim,mode,A,B,C,D,coast,fr⟩
 ·obtain⟨HO1,HO2⟩:=hill (by unfold il;rw[hk];rfl);clear hill;go_wp2_with fail;refine(gd 1 _).mono ?_;rintro e w2 ⟨rfl,hx⟩;have B2:=aA B1 hx;have R2:=an R1 hx;have G2:=yz ((yx G1).kept (yx R1).lt hx);clear hx B1 R1 G1;obtain⟨⟨r0,r1,r2,r3,r4,r5,r6,r7,r8⟩,r9⟩:=yx R2;have g0:=yx G2 0;have g1:=yx G2 1;have g2:=yx G2 2;have g3:=yx G2 3;have g4:=yx G2 4;have g5:=yx G2 5;have g6:=yx G2 6;have g7:=yx G2 7;have g8:=yx G2 8;have g9:=yx G2 9;go_wp2_with fail;clear r0 r1 r2 r3 r4 r5 r6 r7 r8 r9 g0 g1 g2 g3 g4 g5 g6 g7 g8 g9;refine bodyPost_ret (v:=.agg #[.slice none 0 0,J Z 0,J Z 0,J Z 0,J Z 0,J Z 0,J Z 0,J Z 0,J Z 0,J Z 1]) ?_ rfl ⟨?_,?_⟩
  ·refine jT _ _ (w.heap.size+1+1) _ 0 0 0 0 0 0 0 0 1 rfl ?_;exact dV (yx R2) _ _ _ _ _ _ _ _ _ _
  ·rw[yx HO1,yx HO2];exact dL _ _ _
  ·iterate 10 (refine aB ?_ (show w.heap.size≤w.heap.size+1+1 by omega) _ _)
   exact yx B2
 obtain⟨u0,u1,u2,u3⟩:=yx U1;go_wp2_with fail;clear u0 u1 u2 u3;refine(cp g1 g2 g3 g4 _).mono ?_;rintro e w2 ⟨rfl,hx⟩;have B2:=aA B1 hx;have T2:=an T1 hx;have U2:=yz ((yx U1).kept (yx U1).lt hx);have R2:=an R1 hx;have G2:=yz ((yx G1).kept (yx R1).lt hx);have S2:=an S1 hx;have hsz2:w.heap.size+3≤w2.heap.size:=Nat.le_trans hsz1 hx.size;clear hx B1 T1 U1 R1 G1 S1 hsz1;cases hg:aE g1 g2 g3 g4
 ·obtain⟨HO1,HO2⟩:=hill (by unfold il;rw[hg,Bool.and_false]);clear hill;go_wp2_with fail;refine(gd 1 _).mono ?_;rintro e w3 ⟨rfl,hx⟩;have B3:=aA B2 hx;have R3:=an R2 hx;have G3:=yz ((yx G2).kept (yx R2).lt hx);clear hx B2 R2 G2;obtain⟨⟨r0,r1,r2,r3,r4,r5,r6,r7,r8⟩,r9⟩:=yx R3;have g0:=yx G3 0;have g1:=yx G3 1;have g2:=yx G3 2;have g3:=yx G3 3;have g4:=yx G3 4;have g5:=yx G3 5;have g6:=yx G3 6;have g7:=yx G3 7;have g8:=yx G3 8;have g9:=yx G3 9;go_wp2_with fail;clear r0 r1 r2 r3 r4 r5 r6 r7 r8 r9 g0 g1 g2 g3 g4 g5 g6 g7 g8 g9;refine bodyPost_ret (v:=.agg #[.slice none 0 0,J Z 0,J Z 0,J Z 0,J Z 0,J Z 0,J Z 0,J Z 0,J Z 0,J Z 1]) ?_ rfl ⟨?_,?_⟩
  ·refine jT _ _ (w.heap.size+1+1) _ 0 0 0 0 0 0 0 0 1 rfl ?_;exact dV (yx R3) _ _ _ _ _ _ _ _ _ _
  ·rw[yx HO1,yx HO2];exact dL _ _ _
  ·iterate 10 (refine aB ?_ (show w.heap.size≤w.heap.size+1+1 by omega) _ _)
   exact yx B3
 have hgt:mode≠0→aE A B C D=true:=fun h=>AX hk h;have HO1:Hid (iu ⟨L,lim,mode,A,B,C,D,coast,fr⟩ g1 g2 g3 g4=dn ⟨L,lim,mode,A,B,C,D,coast,fr⟩ g1 g2 g3 g4):=yz (by unfold iu il;rw[hk,hg];rfl);have HO2:Hid (iQ ⟨L,lim,mode,A,B,C,D,coast,fr⟩ g1 g2 g3 g4=0):=yz (by unfold iQ il;rw[hk,hg];rfl);clear hill hk;obtain⟨s0,s1,s2,s3,s4,s5,s6,s7,s8⟩:=yx T2;go_wp2_with fail;clear s0 s1 s2 s3 s4 s5 s6 s7 s8;refine(yx cC _ (yx S2)).mono ?_;rintro e w3 ⟨a,cap,rfl,hC,hx⟩;have Z3:=ak w3 (.cells #[.slice a L.length cap,J Z lim,J Z mode,J Z A,J Z B,J Z C,J Z D,J Z coast,J Z fr] 37);have C3:=yz ((hC.low (B':=w.heap.size+1+1+1) (by omega)).kept Z3);have hC9:=hC.low (B':=w.heap.size+1+1+1) (by omega);have B3:=aA (aA B2 hx) Z3;have T3:=aI T2 hx Z3;have U3:=yz (((yx U2).kept (yx U2).lt hx).kept ((yx U2).kept (yx U2).lt hx).lt Z3);have R3:=aI R2 hx Z3;have G3:=yz (((yx G2).kept (yx R2).lt hx).kept ((yx R2).kept hx).lt Z3);have Q3:=yz (bL w3 (.slice a L.length cap) lim mode A B C D coast fr 37);have F3:=yz (dS w3 #[.slice a L.length cap,J Z lim,J Z mode,J Z A,J Z B,J Z C,J Z D,J Z coast,J Z fr] 37);have hq:w.heap.size+3≤w3.heap.size:=Nat.le_trans hsz2 hx.size
 have hqr:∀x,a=some x→x.block<w3.heap.size:=fun x e=>by
  rcases hC.2 with ⟨h1,_⟩ | ⟨g,c',cur,e',hb,hh,r⟩
  ·injection h1 with h1;rw[h1]at e;cases e
  ·injection e' with e1;rw[e1]at e;cases e;exact(Array.getElem?_eq_some_iff.1 hh).1
 clear hx hC Z3 B2 T2 U2 R2 G2 S2 hsz2 cC hC9;by_cases hm:mode=0
 ·have HO3:Hid (dn ⟨L,lim,mode,A,B,C,D,coast,fr⟩ g1 g2 g3 g4=⟨L,lim,mode,A,B,C,D,coast,fr⟩):=yz (by unfold dn;rw[if_pos hm]);obtain⟨s0,s1,s2,s3,s4,s5,s6,s7,s8⟩:=yx T3;obtain⟨q0,q1,q2,q3,q4,q5,q6,q7,q8⟩:=yx Q3;obtain⟨⟨r0,r1,r2,r3,r4,r5,r6,r7,r8⟩,r9⟩:=yx R3;have f0:=yx G3 0;have f1:=yx G3 1;have f2:=yx G3 2;have f3:=yx G3 3;have f4:=yx G3 4;have f5:=yx G3 5;have f6:=yx G3 6;have f7:=yx G3 7;have f8:=yx G3 8;have f9:=yx G3 9;subst hm;go_wp2_with fail;clear s0 s1 s2 s3 s4 s5 s6 s7 s8 q0 q1 q2 q3 q4 q5 q6 q7 q8 r0 r1 r2 r3 r4 r5 r6 r7 r8 r9 f0 f1 f2 f3 f4 f5 f6 f7 f8 f9;refine bodyPost_ret (v:=.agg #[.slice a L.length cap,J Z lim,J Z 0,J Z A,J Z B,J Z C,J Z D,J Z coast,J Z fr,J Z 0]) ?_ rfl ⟨?_,?_⟩
  ·refine jT _ _ (w.heap.size+1+1) _ lim 0 A B C D coast fr 0 rfl ?_;exact dV (yx R3) _ _ _ _ _ _ _ _ _ _
  ·rw[yx HO1,yx HO2,yx HO3];refine⟨a,cap,rfl,?_⟩;refine ay.low (B:=w.heap.size+1+1+1) ?_ (by omega);iterate 10 (refine ay.far ?_ (Nat.lt_succ_self (w.heap.size+1+1)) _ _)
   exact yx C3
  ·iterate 10 (refine aB ?_ (show w.heap.size≤w.heap.size+1+1 by omega) _ _)
   exact yx B3
 have cX:=yz (fun W=>wt g1 g2 g3 g4 A B C D W hg (hgt hm));have hO3:coK g1 g2 g3 g4 A B C D=0→Hid (dn ⟨L,lim,mode,A,B,C,D,coast,fr⟩ g1 g2 g3 g4=⟨L,lim,mode,zP g1 g2 g3 g4 A B C D,zQ g1 g2 g3 g4 A B C D,zR g1 g2 g3 g4 A B C D,zS g1 g2 g3 g4 A B C D,coast,fr⟩):=fun h=>yz (by unfold dn;rw[if_neg hm,if_pos h]);have hO4:coK g1 g2 g3 g4 A B C D≠0→Hid (dn ⟨L,lim,mode,A,B,C,D,coast,fr⟩ g1 g2 g3 g4=⟨L,lim,0,0,0,0,0,0,fr⟩):=fun h=>yz (by unfold dn;rw[if_neg hm,if_neg h];rfl);generalize zP g1 g2 g3 g4 A B C D=P1 at *;generalize zQ g1 g2 g3 g4 A B C D=P2 at *;generalize zR g1 g2 g3 g4 A B C D=P3 at *;generalize zS g1 g2 g3 g4 A B C D=P4 at *;generalize coK g1 g2 g3 g4 A B C D=Pk at *;obtain⟨s0,s1,s2,s3,s4,s5,s6,s7,s8⟩:=yx T3;obtain⟨u0,u1,u2,u3⟩:=yx U3;go_wp2_with fail;clear s0 s1 s2 s3 s4 s5 s6 s7 s8 u0 u1 u2 u3;generalize hV3:w3.alloc (.cells #[.slice a L.length cap,J Z lim,J Z mode,J Z A,J Z B,J Z C,J Z D,J Z coast,J Z fr] 37)=V3 at *;generalize hqb:w3.heap.size=qb at *;clear hV3 hqb;refine(yx cX _).mono ?_;rintro e w4 ⟨rfl,hx⟩;have Z4:=ak w4 (.cells #[J Z P1,J Z P2,J Z P3,J Z P4,J Z Pk] 156);have B4:=aA (aA B3 hx) Z4;have Q4:=aI Q3 hx Z4;have F4:=yz (((yx F3).kept (yx Q3).lt hx).kept ((yx Q3).kept hx).lt Z4);have R4:=aI R3 hx Z4;have G4:=yz (((yx G3).kept (yx R3).lt hx).kept ((yx R3).kept hx).lt Z4);have C4:=aI C3 hx Z4;have O4:=gV w4 P1 P2 P3 P4 Pk 156;clear hx Z4 B3 T3 U3 Q3 F3 R3 G3 C3 cX;obtain⟨o0,o1,o2,o3,o4⟩:=O4;by_cases hk:Pk=0
 ·have HO3:=hO3 hk;clear hO3 hO4;subst hk;obtain⟨q0,q1,q2,q3,q4,q5,q6,q7,q8⟩:=yx Q4;obtain⟨⟨r0,r1,r2,r3,r4,r5,r6,r7,r8⟩,r9⟩:=yx R4;have e3:=yx F4 3;have e4:=yx F4 4;have e5:=yx F4 5;have e6:=yx F4 6;have f0:=yx G4 0;have f1:=yx G4 1;have f2:=yx G4 2;have f3:=yx G4 3;have f4:=yx G4 4;have f5:=yx G4 5;have f6:=yx G4 6;have f7:=yx G4 7;have f8:=yx G4 8;have f9:=yx G4 9;have hne1:w.heap.size+1+1≠qb:=by omega
  have hne2:qb≠w.heap.size+1+1:=by omega
  go_wp2_with fail;clear q0 q1 q2 q3 q4 q5 q6 q7 q8 r0 r1 r2 r3 r4 r5 r6 r7 r8 r9 e3 e4 e5 e6 f0 f1 f2 f3 f4 f5 f6 f7 f8 f9 o0 o1 o2 o3 o4;refine bodyPost_ret (v:=.agg #[.slice a L.length cap,J Z lim,J Z mode,J Z P1,J Z P2,J Z P3,J Z P4,J Z coast,J Z fr,J Z 0]) ?_ rfl ⟨?_,?_⟩
  ·refine jT _ _ (w.heap.size+1+1) _ lim mode P1 P2 P3 P4 coast fr 0 rfl ?_;refine dV (lim0:=0) (mode0:=0) (A0:=0) (B0:=0) (C0:=0) (D0:=0) (coast0:=0) (fr0:=0) (code0:=0) (u:=.slice none 0 0) ?_ _ lim mode P1 P2 P3 P4 coast fr 0;iterate 4 (refine TkO.far ?_ hne1 _ _)
   exact yx R4
  ·rw[yx HO1,yx HO2,yx HO3];refine⟨a,cap,rfl,?_⟩;refine ay.low (B:=w.heap.size+1+1+1) ?_ (by omega);iterate 10 (refine ay.far ?_ (Nat.lt_succ_self (w.heap.size+1+1)) _ _)
   iterate 4 (refine ay.off ?_ (fun x e=>Nat.ne_of_lt (hqr x e)) _ _)
   exact yx C4
  ·iterate 10 (refine aB ?_ (show w.heap.size≤w.heap.size+1+1 by omega) _ _)
   iterate 4 (refine aB ?_ (show w.heap.size≤qb by omega) _ _)
   exact yx B4
 ·have HO3:=hO4 hk;clear hO3 hO4;obtain⟨q0,q1,q2,q3,q4,q5,q6,q7,q8⟩:=yx Q4;go_wp2_with fail;clear q0 q1 q2 q3 q4 q5 q6 q7 q8 o0 o1 o2 o3 o4;refine(jl lim mode A B C D coast fr a L.length cap _).mono ?_;rintro e w5 ⟨rfl,hx⟩;have B5:=aA B4 hx;have R5:=an R4 hx;have G5:=yz ((yx G4).kept (yx R4).lt hx);have C5:=an C4 hx;clear hx B4 R4 G4 C4;obtain⟨⟨r0,r1,r2,r3,r4,r5,r6,r7,r8⟩,r9⟩:=yx R5;have g0:=yx G5 0;have g1:=yx G5 1;have g2:=yx G5 2;have g3:=yx G5 3;have g4:=yx G5 4;have g5:=yx G5 5;have g6:=yx G5 6;have g7:=yx G5 7;have g8:=yx G5 8;have g9:=yx G5 9;go_wp2_with fail;clear r0 r1 r2 r3 r4 r5 r6 r7 r8 r9 g0 g1 g2 g3 g4 g5 g6 g7 g8 g9;refine bodyPost_ret (v:=.agg #[.slice a L.length cap,J Z lim,J Z 0,J Z 0,J Z 0,J Z 0,J Z 0,J Z 0,J Z fr,J Z 0]) ?_ rfl ⟨?_,?_⟩
  ·refine jT _ _ (w.heap.size+1+1) _ lim 0 0 0 0 0 0 fr 0 rfl ?_;exact dV (yx R5) _ _ _ _ _ _ _ _ _ _
  ·rw[yx HO1,yx HO2,yx HO3];refine⟨a,cap,rfl,?_⟩;refine ay.low (B:=w.heap.size+1+1+1) ?_ (by omega);iterate 10 (refine ay.far ?_ (Nat.lt_succ_self (w.heap.size+1+1)) _ _)
   exact yx C5
  ·iterate 10 (refine aB ?_ (show w.heap.size≤w.heap.size+1+1 by omega) _ _)
   exact yx B5
end
section
open Go.Value renaming int → J
open Go.IntKind renaming i64 → Z
open Go.RowKit Go.Sort
theorem bd.far{w:World}{b:Nat}{p q r s:Int}(h:bd w b p q r s){b':Nat}(hne:b≠b')(o:Nat)(x:Value):bd (w.setCell ⟨b',o,none⟩ x) b p q r s:=by
 obtain⟨h0,h1,h2,h3⟩:=h;refine⟨?_,?_,?_,?_⟩<;>(rw[World.cell?_setCell_far _ _ _ _ (Ne.symm hne)];assumption)
theorem wg(L:List St)(lim mode A B C D coast fr g1 g2 g3 g4:Int)(ad:Option Addr)(c:Nat)(p:Addr)(w:World)(hn:L.length≤1048576)(hcap:L.length≤c)(hc9:c≤9223372036854775807)(hE:bm p w)(hS:aH w ad L L.length):
  Calls Tryz.prog 70 #[.agg #[.slice ad L.length c,J Z lim,J Z mode,J Z A,J Z B,J Z C,J Z D,J Z coast,J Z fr],.agg #[J Z g1,J Z g2,J Z g3,J Z g4]] w fun e w'=>jx w' w.heap.size (iu ⟨L,lim,mode,A,B,C,D,coast,fr⟩ g1 g2 g3 g4) (iQ ⟨L,lim,mode,A,B,C,D,coast,fr⟩ g1 g2 g3 g4) e∧Below w.heap.size w w':=by
 have B0:=bq w (.cells #[.slice ad L.length c,J Z lim,J Z mode,J Z A,J Z B,J Z C,J Z D,J Z coast,J Z fr] 37) (.cells #[J Z g1,J Z g2,J Z g3,J Z g4] 35) (.cells #[.slice none 0 0,J Z 0,J Z 0,J Z 0,J Z 0,J Z 0,J Z 0,J Z 0,J Z 0,J Z 0] 39);have Z2:=aF (w.alloc (.cells #[.slice ad L.length c,J Z lim,J Z mode,J Z A,J Z B,J Z C,J Z D,J Z coast,J Z fr] 37)) (.cells #[J Z g1,J Z g2,J Z g3,J Z g4] 35) (.cells #[.slice none 0 0,J Z 0,J Z 0,J Z 0,J Z 0,J Z 0,J Z 0,J Z 0,J Z 0,J Z 0] 39);have T0:=(bL w (.slice ad L.length c) lim mode A B C D coast fr 37).kept Z2;have U0:=(by simpa using bh (w.alloc (.cells #[.slice ad L.length c,J Z lim,J Z mode,J Z A,J Z B,J Z C,J Z D,J Z coast,J Z fr] 37)) g1 g2 g3 g4 35:bd ((w.alloc (.cells #[.slice ad L.length c,J Z lim,J Z mode,J Z A,J Z B,J Z C,J Z D,J Z coast,J Z fr] 37)).alloc (.cells #[J Z g1,J Z g2,J Z g3,J Z g4] 35)) (w.heap.size+1) g1 g2 g3 g4).alloc (.cells #[.slice none 0 0,J Z 0,J Z 0,J Z 0,J Z 0,J Z 0,J Z 0,J Z 0,J Z 0,J Z 0] 39);have R0:=(by simpa using qS ((w.alloc (.cells #[.slice ad L.length c,J Z lim,J Z mode,J Z A,J Z B,J Z C,J Z D,J Z coast,J Z fr] 37)).alloc (.cells #[J Z g1,J Z g2,J Z g3,J Z g4] 35)) (.slice none 0 0) 0 0 0 0 0 0 0 0 0 39:TkO (((w.alloc (.cells #[.slice ad L.length c,J Z lim,J Z mode,J Z A,J Z B,J Z C,J Z D,J Z coast,J Z fr] 37)).alloc (.cells #[J Z g1,J Z g2,J Z g3,J Z g4] 35)).alloc (.cells #[.slice none 0 0,J Z 0,J Z 0,J Z 0,J Z 0,J Z 0,J Z 0,J Z 0,J Z 0,J Z 0] 39)) (w.heap.size+1+1) (.slice none 0 0) 0 0 0 0 0 0 0 0 0)
 have G0:=(by simpa using dS ((w.alloc (.cells #[.slice ad L.length c,J Z lim,J Z mode,J Z A,J Z B,J Z C,J Z D,J Z coast,J Z fr] 37)).alloc (.cells #[J Z g1,J Z g2,J Z g3,J Z g4] 35)) #[.slice none 0 0,J Z 0,J Z 0,J Z 0,J Z 0,J Z 0,J Z 0,J Z 0,J Z 0,J Z 0] 39:fM (((w.alloc (.cells #[.slice ad L.length c,J Z lim,J Z mode,J Z A,J Z B,J Z C,J Z D,J Z coast,J Z fr] 37)).alloc (.cells #[J Z g1,J Z g2,J Z g3,J Z g4] 35)).alloc (.cells #[.slice none 0 0,J Z 0,J Z 0,J Z 0,J Z 0,J Z 0,J Z 0,J Z 0,J Z 0,J Z 0] 39)) (w.heap.size+1+1))
 have hsz:w.heap.size+3≤(((w.alloc (.cells #[.slice ad L.length c,J Z lim,J Z mode,J Z A,J Z B,J Z C,J Z D,J Z coast,J Z fr] 37)).alloc (.cells #[J Z g1,J Z g2,J Z g3,J Z g4] 35)).alloc (.cells #[.slice none 0 0,J Z 0,J Z 0,J Z 0,J Z 0,J Z 0,J Z 0,J Z 0,J Z 0,J Z 0] 39)).heap.size:=by simp
 have S0:=hS.kept B0;have cR:=yz (fP L lim mode A B C D coast fr ad c p _ hn hcap hc9 S0 (hE.kept B0));have cC:=yz (fun W h=>kG L lim mode A B C D coast fr ad c W hn h);have HB:=yz B0;have HT:=yz T0;have HU:=yz U0;have HR:=yz R0;have HG:=yz G0;have HS:=yz S0;clear B0 T0 U0 R0 G0 S0 Z2 hS;go_enter Tryz.func70,Tryz.ntmps70;go_wp2_with fail;generalize hW:((w.alloc (.cells #[.slice ad L.length c,J Z lim,J Z mode,J Z A,J Z B,J Z C,J Z D,J Z coast,J Z fr] 37)).alloc (.cells #[J Z g1,J Z g2,J Z g3,J Z g4] 35)).alloc (.cells #[.slice none 0 0,J Z 0,J Z 0,J Z 0,J Z 0,J Z 0,J Z 0,J Z 0,J Z 0,J Z 0] 39)=W at *;clear hW;refine(yx cR).mono ?_;rintro e w1 ⟨rfl,hx⟩;have B1:=aA HB hx;have T1:=an HT hx;have U1:=yz ((yx HU).kept (yx HU).lt hx);have R1:=an HR hx;have G1:=yz ((yx HG).kept (yx HR).lt hx);have S1:=an HS hx;have hsz1:w.heap.size+3≤w1.heap.size:=Nat.le_trans hsz hx.size;clear hx HB HT HU HR HG HS hsz cR;have hill:il ⟨L,lim,mode,A,B,C,D,coast,fr⟩ g1 g2 g3 g4=false→Hid (iu ⟨L,lim,mode,A,B,C,D,coast,fr⟩ g1 g2 g3 g4=eh)∧Hid (iQ ⟨L,lim,mode,A,B,C,D,coast,fr⟩ g1 g2 g3 g4=1):=fun h=>⟨yz (by unfold iu;rw[h];rfl),yz (by unfold iQ;rw[h];rfl)⟩
 cases hk:aZ ⟨L,lim,mode,A,B,C,D,coast,fr⟩
 ·obtain⟨HO1,HO2⟩:=hill (by unfold il;rw[hk];rfl);clear hill;have B2:=B1;have R2:=R1;have G2:=G1;clear B1 R1 G1;obtain⟨⟨r0,r1,r2,r3,r4,r5,r6,r7,r8⟩,r9⟩:=yx R2;have g0:=yx G2 0;have g1:=yx G2 1;have g2:=yx G2 2;have g3:=yx G2 3;have g4:=yx G2 4;have g5:=yx G2 5;have g6:=yx G2 6;have g7:=yx G2 7;have g8:=yx G2 8;have g9:=yx G2 9;go_wp2_with fail;clear r0 r1 r2 r3 r4 r5 r6 r7 r8 r9 g0 g1 g2 g3 g4 g5 g6 g7 g8 g9;refine bodyPost_ret (v:=.agg #[.slice none 0 0,J Z 0,J Z 0,J Z 0,J Z 0,J Z 0,J Z 0,J Z 0,J Z 0,J Z 1]) ?_ rfl ⟨?_,?_⟩
  ·refine oT _ _ (w.heap.size+1+1) _ 0 0 0 0 0 0 0 0 1 rfl ?_;exact dV (yx R2) _ _ _ _ _ _ _ _ _ _
  ·rw[yx HO1,yx HO2];exact dL _ _ _
  ·iterate 10 (refine aB ?_ (show w.heap.size≤w.heap.size+1+1 by omega) _ _)
   exact yx B2
 obtain⟨u0,u1,u2,u3⟩:=yx U1;go_wp2_with fail;clear u0 u1 u2 u3;refine(bO g1 g2 g3 g4 _).mono ?_;rintro e w2 ⟨rfl,hx⟩;have B2:=aA B1 hx;have T2:=an T1 hx;have U2:=yz ((yx U1).kept (yx U1).lt hx);have R2:=an R1 hx;have G2:=yz ((yx G1).kept (yx R1).lt hx);have S2:=an S1 hx;have hsz2:w.heap.size+3≤w2.heap.size:=Nat.le_trans hsz1 hx.size;clear hx B1 T1 U1 R1 G1 S1 hsz1;cases hg:aE g1 g2 g3 g4
 ·obtain⟨HO1,HO2⟩:=hill (by unfold il;rw[hg,Bool.and_false]);clear hill;have B3:=B2;have R3:=R2;have G3:=G2;clear B2 R2 G2;obtain⟨⟨r0,r1,r2,r3,r4,r5,r6,r7,r8⟩,r9⟩:=yx R3;have g0:=yx G3 0;have g1:=yx G3 1;have g2:=yx G3 2;have g3:=yx G3 3;have g4:=yx G3 4;have g5:=yx G3 5;have g6:=yx G3 6;have g7:=yx G3 7;have g8:=yx G3 8;have g9:=yx G3 9;go_wp2_with fail;clear r0 r1 r2 r3 r4 r5 r6 r7 r8 r9 g0 g1 g2 g3 g4 g5 g6 g7 g8 g9;refine bodyPost_ret (v:=.agg #[.slice none 0 0,J Z 0,J Z 0,J Z 0,J Z 0,J Z 0,J Z 0,J Z 0,J Z 0,J Z 1]) ?_ rfl ⟨?_,?_⟩
  ·refine oT _ _ (w.heap.size+1+1) _ 0 0 0 0 0 0 0 0 1 rfl ?_;exact dV (yx R3) _ _ _ _ _ _ _ _ _ _
  ·rw[yx HO1,yx HO2];exact dL _ _ _
  ·iterate 10 (refine aB ?_ (show w.heap.size≤w.heap.size+1+1 by omega) _ _)
   exact yx B3
 have HO1:Hid (iu ⟨L,lim,mode,A,B,C,D,coast,fr⟩ g1 g2 g3 g4=dn ⟨L,lim,mode,A,B,C,D,coast,fr⟩ g1 g2 g3 g4):=yz (by unfold iu il;rw[hk,hg];rfl);have HO2:Hid (iQ ⟨L,lim,mode,A,B,C,D,coast,fr⟩ g1 g2 g3 g4=0):=yz (by unfold iQ il;rw[hk,hg];rfl);have HL:Hid ((dn ⟨L,lim,mode,A,B,C,D,coast,fr⟩ g1 g2 g3 g4).L=L):=yz (zy _ _ _ _ _);have cB:=yz (fun (W:World) (a:Option Addr) (cap:Nat)=>xr L lim mode A B C D coast fr g1 g2 g3 g4 a L.length cap W);generalize hT2:dn ⟨L,lim,mode,A,B,C,D,coast,fr⟩ g1 g2 g3 g4=t2 at *;obtain⟨L2,lim2,mode2,A2,B2',C2,D2,coast2,fr2⟩:=t2;unfold tkV at cB;dsimp only at cB HL;clear hT2 hill hk;have CT:Hid (dk w2 w.heap.size (.slice ad L.length c) lim mode A B C D coast fr∧bd w2 (w.heap.size+1) g1 g2 g3 g4):=yz ⟨yx T2,yx U2⟩;go_wp2_with fail;refine wp_region_held_drew (S:=(fun w'=>(w'.cell? ⟨w.heap.size,0,none⟩=some (.slice ad L.length c)∧w'.cell? ⟨w.heap.size,1,none⟩=some (J Z lim)∧w'.cell? ⟨w.heap.size,2,none⟩=some (J Z mode)∧w'.cell? ⟨w.heap.size,3,none⟩=some (J Z A)∧w'.cell? ⟨w.heap.size,4,none⟩=some (J Z B)∧w'.cell? ⟨w.heap.size,5,none⟩=some (J Z C)∧w'.cell? ⟨w.heap.size,6,none⟩=some (J Z D)∧w'.cell? ⟨w.heap.size,7,none⟩=some (J Z coast)∧w'.cell? ⟨w.heap.size,8,none⟩=some (J Z fr))∧w'.cell? ⟨w.heap.size+1,0,none⟩=some (J Z g1)∧w'.cell? ⟨w.heap.size+1,1,none⟩=some (J Z g2)∧w'.cell? ⟨w.heap.size+1,2,none⟩=some (J Z g3)∧w'.cell? ⟨w.heap.size+1,3,none⟩=some (J Z g4))) (by kernel_rfl) ?_ (fun hHeld=>?_)
 ·exact yx CT
 refine ab 0 rfl ?_;try simp only[Act.put,ag,ah,ai]
 refine ab 2 rfl ?_;try simp only[Act.put,ag,ah,ai]
 have S2d:aH w2.drew ad L L.length:=(yx S2).kept (Below.refl _ _).drew;have B2d:Below w.heap.size w w2.drew:=(yx B2).drew;have R2d:TkO w2.drew (w.heap.size+1+1) (.slice none 0 0) 0 0 0 0 0 0 0 0 0:=yx R2;have G2d:fM w2.drew (w.heap.size+1+1):=yx G2;have CTd:dk w2.drew w.heap.size (.slice ad L.length c) lim mode A B C D coast fr∧bd w2.drew (w.heap.size+1) g1 g2 g3 g4:=yx CT;have hszd:w.heap.size+3≤w2.drew.heap.size:=hsz2;refine ae 1 rfl fun K hK=>?_;go_simp;refine(yx cC _ S2d).mono ?_;rintro e w3 ⟨a,cap,rfl,hC,hx⟩;have C3:=yz (hC.low (B':=w.heap.size+1+1+1) (by omega));have B3:=yz (aj B2d hx);have R3:=yz (R2d.kept hx);have G3:=yz (G2d.kept R2d.lt hx);have CT3:=yz (show dk w3 w.heap.size (.slice ad L.length c) lim mode A B C D coast fr∧bd w3 (w.heap.size+1) g1 g2 g3 g4 from ⟨CTd.1.kept hx,CTd.2.kept CTd.2.lt hx⟩);clear hx hC S2d B2d R2d G2d CTd hszd CT T2 U2 B2 R2 G2 S2 hsz2;refine hK.out _ _ ?_ (fun hHeld1=>?_)
 ·exact yx CT3
 clear hK K hHeld;refine ae 3 rfl fun K hK=>?_;go_simp;refine(yx cB _ a cap).mono ?_;rintro e w4 ⟨rfl,hx⟩;have C4:=an C3 hx;have B4:=aA B3 hx;have R4:=an R3 hx;have G4:=yz ((yx G3).kept (yx R3).lt hx);have CT4:=yz (show dk w4 w.heap.size (.slice ad L.length c) lim mode A B C D coast fr∧bd w4 (w.heap.size+1) g1 g2 g3 g4 from ⟨(yx CT3).1.kept hx,(yx CT3).2.kept (yx CT3).2.lt hx⟩);clear hx C3 B3 R3 G3 CT3;refine hK.out _ _ ?_ (fun hHeld2=>?_)
 ·exact yx CT4
 clear hK K hHeld1;refine ae 4 rfl fun K hK=>?_;go_simp;refine(oh lim2 mode2 A2 B2' C2 D2 coast2 fr2 a L.length cap _).mono ?_;rintro e w5 ⟨rfl,hx⟩;have C5:=an C4 hx;have B5:=aA B4 hx;have R5:=an R4 hx;have G5:=yz ((yx G4).kept (yx R4).lt hx);have CT5:=yz (show dk w5 w.heap.size (.slice ad L.length c) lim mode A B C D coast fr∧bd w5 (w.heap.size+1) g1 g2 g3 g4 from ⟨(yx CT4).1.kept hx,(yx CT4).2.kept (yx CT4).2.lt hx⟩);clear hx C4 B4 R4 G4 CT4;refine hK.out _ _ ?_ (fun hHeld3=>?_)
 ·exact yx CT5
 clear hK K hHeld2;obtain⟨⟨r0,r1,r2,r3,r4,r5,r6,r7,r8⟩,r9⟩:=yx R5;have f0:=yx G5 0;have f1:=yx G5 1;have f2:=yx G5 2;have f3:=yx G5 3;have f4:=yx G5 4;have f5:=yx G5 5;have f6:=yx G5 6;have f7:=yx G5 7;have f8:=yx G5 8;have f9:=yx G5 9;refine ae 5 rfl fun K hK=>?_;go_simp;clear r0 r1 r2 r3 r4 r5 r6 r7 r8 r9 f0 f1 f2 f3 f4 f5 f6 f7 f8 f9;refine hK.out _ _ ?_ (fun hHeld4=>?_)
 ·show dk _ w.heap.size (.slice ad L.length c) lim mode A B C D coast fr∧bd _ (w.heap.size+1) g1 g2 g3 g4;refine⟨?_,?_⟩
  ·iterate 10 (refine dk.far ?_ (show w.heap.size≠w.heap.size+1+1 by omega) _ _)
   exact(yx CT5).1
  ·iterate 10 (refine bd.far ?_ (show w.heap.size+1≠w.heap.size+1+1 by omega) _ _)
   exact(yx CT5).2
 clear hK K hHeld3;refine wpAnyH_done (by kernel_rfl) ?_ _;clear hHeld4;go_wp2_with fail;have hL2:L2=L:=yx HL;refine bodyPost_ret (v:=.agg #[.slice a L.length cap,J Z lim2,J Z mode2,J Z A2,J Z B2',J Z C2,J Z D2,J Z coast2,J Z fr2,J Z 0]) ?_ rfl ⟨?_,?_⟩
 ·refine oT _ _ (w.heap.size+1+1) _ lim2 mode2 A2 B2' C2 D2 coast2 fr2 0 rfl ?_;exact dV (yx R5) _ _ _ _ _ _ _ _ _ _
 ·rw[yx HO1,yx HO2];subst hL2;refine⟨a,cap,rfl,?_⟩;refine ay.low (B:=w.heap.size+1+1+1) ?_ (by omega);iterate 10 (refine ay.far ?_ (Nat.lt_succ_self (w.heap.size+1+1)) _ _)
  exact yx C5
 ·iterate 10 (refine aB ?_ (show w.heap.size≤w.heap.size+1+1 by omega) _ _)
  exact yx B5
end
section
open Go.RowKit Go.Sort
variable {cap:Nat} {a:Option Addr} {w w':World}
theorem ik.row{b n:Nat}{L:List St}(h:ik w b n L n):mH w (some ⟨b,0,none⟩) n (some b):=by
 obtain⟨cur,hc,hn,hs⟩:=h;refine .inr ⟨b,fun j=>match j % 4 with | 0=>(stA L (j / 4)).1 | 1=>(stA L (j / 4)).2.1 | 2=>(stA L (j / 4)).2.2.1 | _=>(stA L (j / 4)).2.2.2,rfl,rfl,cur,hc,fun j hj=>?_⟩;obtain⟨h0,h1,h2,h3⟩:=hs (j / 4) (by omega);have h4:j % 4=0∨j % 4=1∨j % 4=2∨j % 4=3:=by omega
 rcases h4 with h4 | h4 | h4 | h4
 ·dsimp only;rw[h4];rw[show j / 4*4=j by omega]at h0;exact h0
 ·dsimp only;rw[h4];rw[show j / 4*4+1=j by omega]at h1;exact h1
 ·dsimp only;rw[h4];rw[show j / 4*4+2=j by omega]at h2;exact h2
 ·dsimp only;rw[h4];rw[show j / 4*4+3=j by omega]at h3;exact h3
theorem ay.grown{B:Nat}{L:List St}{row:Option Nat}(h:ay w B L a cap)(hg:w.grownBy w' row)(hne:∀g,row=some g→g<B):ay w' B L a cap:=by
 obtain⟨h1,h2⟩:=h;refine⟨h1,?_⟩;rcases h2 with h2 | ⟨g,c',cur,e,hb,hh,r⟩
 ·exact .inl h2
 ·exact .inr ⟨g,c',cur,e,hb,by rw[hg.block g (Array.getElem?_eq_some_iff.1 hh).1 (fun e=>by have:=hne g e.symm;omega)];exact hh,r⟩
theorem aH.grown{L:List St}{n:Nat}{row:Option Nat}(h:aH w a L n)(hg:w.grownBy w' row)(hne:∀x g,a=some x→row=some g→x.block≠g):aH w' a L n:=by
 rcases h with h | ⟨b,o,rfl,hb,hc⟩
 ·exact .inl h
 ·refine .inr ⟨b,o,rfl,Nat.lt_of_lt_of_le hb hg.size,fun i hi=>?_⟩;have e:w'.heap[b]? = w.heap[b]?:=hg.block b hb (fun e=>hne _ b rfl e.symm rfl);obtain⟨c0,c1,c2,c3⟩:=hc i hi;exact⟨(World.cell?_of_block (a:=⟨b,_,none⟩) e).trans c0,(World.cell?_of_block (a:=⟨b,_,none⟩) e).trans c1,(World.cell?_of_block (a:=⟨b,_,none⟩) e).trans c2,(World.cell?_of_block (a:=⟨b,_,none⟩) e).trans c3⟩
theorem ay.block{B:Nat}{L:List St}(h:ay w B L a cap)(x:Addr)(e:a=some x):B≤x.block∧x.block<w.heap.size:=by
 rcases h.2 with ⟨h1,_⟩ | ⟨g,c',cur,e',hb,hh,r⟩
 ·injection h1 with h1;rw[h1]at e;cases e
 ·injection e' with e1;rw[e1]at e;cases e;exact⟨hb,(Array.getElem?_eq_some_iff.1 hh).1⟩
end
end Go.Proofs.YteoonaanoenjiaaGreatDoor
