/- Several texts in one: MaM, DsN, SeenB, SeenC, ModM, TurnO, TurnD, TurnE, RowR, BlB, BlC, WideT, SpD, BlD, BlE, BlF, BlG, BlH, BlI, SpE. -/
import Derived.Maps.AppendAt
import Derived.Deep.CutRange
import Derived.WalkMore
import Derived.Test.YtdchjcadhlkpfaaGreatDoorD7
namespace Go.Proofs.YtdchjcadhlkpfaaGreatDoor
set_option linter.unusedVariables false
set_option linter.unusedSimpArgs false
set_option maxRecDepth 100000
set_option maxHeartbeats 8000000
section
open Go.RowKit
theorem zq(p q:D3):bY p q=bY q p:=by
 unfold bY;by_cases hp:aA p.1 p.2.1 p.2.2=true
 ·by_cases hq:aA q.1 q.2.1 q.2.2=true
  ·exact pq hp hq
  ·rw[Bool.not_eq_true]at hq;unfold eb;rw[hq];simp
 ·rw[Bool.not_eq_true]at hp;unfold eb;rw[hp];simp
theorem xS{a1 a2 a3 b1 b2 b3:Int}(ha:aR 1000000 a1 a2 a3=true)(hb:aR 1000000 b1 b2 b3=true):
  (decide (crW a2 a3 b2 b3=0∧crW a3 a1 b3 b1=0∧crW a1 a2 b1 b2=0)&&decide (0<bG a1 a2 a3 b1 b2 b3))=eb a1 a2 a3 b1 b2 b3:=by
 unfold eb aA;rw[ha,hb];by_cases za:a1=0∧a2=0∧a3=0
 ·obtain⟨rfl,rfl,rfl⟩:=za;have:bG 0 0 0 b1 b2 b3=0:=by have z:wrap64 0=0:=au (by omega) (by omega);unfold bG;simp[z]
  rw[this];simp[ij]
 ·by_cases zb:b1=0∧b2=0∧b3=0
  ·obtain⟨rfl,rfl,rfl⟩:=zb;have:bG a1 a2 a3 0 0 0=0:=by have z:wrap64 0=0:=au (by omega) (by omega);unfold bG;simp[z]
   rw[this];simp[ij]
  ·have h1:ij a1 a2 a3=false:=by unfold ij;simp only[decide_eq_false_iff_not];exact za
   have h2:ij b1 b2 b3=false:=by unfold ij;simp only[decide_eq_false_iff_not];exact zb
   rw[h1,h2];rfl
theorem pr{x y z:Int}(h:aU x y z=true):dy x y z=true:=by
 obtain⟨h1,h2⟩:=bI h;unfold dy;rw[h1,Bool.true_and,aW];rw[aW]at h2;omega
def apD(a b c d:Int)(v:D3):D3:=(apX a b c d v.1 v.2.1 v.2.2,apY a b c d v.1 v.2.1 v.2.2,apZ a b c d v.1 v.2.1 v.2.2)
theorem qk{a b c d:Int}{v:D3}(ht:aD a b c d=true)(hv:aU v.1 v.2.1 v.2.2=true):aR 1000000 (apD a b c d v).1 (apD a b c d v).2.1 (apD a b c d v).2.2=true:=by
 refine wg (D:=300) ht ?_ (by omega) (by omega);have h:=dF (bI hv).2 (bI hv).2;omega
def fi(L:List St)(a b c d:Int)(v:D3):Nat→Int
 | 0=>0
 | k+1=>if bY v (apD a b c d (stA L k).2)=true then (stA L k).1 else fi L a b c d v k
def lw(L:List St)(a b c d:Int)(S:List D3):Bool:=bc L&&aD a b c d&&ba S
def bQ(L:List St)(a b c d:Int)(S:List D3):List Int:=if lw L a b c d S=true then S.map (fun v=>fi L a b c d v L.length) else []
theorem Bo{L:List St}{a b c d:Int}{S:List D3}(h:bc L=false):bQ L a b c d S=[]:=by unfold bQ lw;rw[h];rfl
theorem Bp{L:List St}{a b c d:Int}{S:List D3}(h:aD a b c d=false):bQ L a b c d S=[]:=by unfold bQ lw;rw[h,Bool.and_false];rfl
theorem Bq{L:List St}{a b c d:Int}{S:List D3}(h:ba S=false):bQ L a b c d S=[]:=by unfold bQ lw;rw[h,Bool.and_false];rfl
theorem tH{L:List St}{a b c d:Int}{S:List D3}(h1:bc L=true)(h2:aD a b c d=true)(h3:ba S=true):bQ L a b c d S=S.map (fun v=>fi L a b c d v L.length):=by unfold bQ lw;rw[h1,h2,h3];rfl
theorem Bn(L:List St)(a b c d:Int)(S:List D3):(bQ L a b c d S).length≤6:=by
 unfold bQ;split
 ·rename_i h
  unfold lw at h;rw[Bool.and_eq_true]at h;rw[List.length_map];exact(bS h.2).1
 ·simp
def apV(L:List St)(a b c d id:Int):D3:=apD a b c d (atV L L.length id)
def fN(L:List St)(a b c d id:Int):D3:=
 (prI (aA (apV L a b c d id).1 (apV L a b c d id).2.1 (apV L a b c d id).2.2) (gI (apV L a b c d id).1 (apV L a b c d id).2.1 (apV L a b c d id).2.2) (apV L a b c d id).1,prI (aA (apV L a b c d id).1 (apV L a b c d id).2.1 (apV L a b c d id).2.2) (gI (apV L a b c d id).1 (apV L a b c d id).2.1 (apV L a b c d id).2.2) (apV L a b c d id).2.1,prI (aA (apV L a b c d id).1 (apV L a b c d id).2.1 (apV L a b c d id).2.2) (gI (apV L a b c d id).1 (apV L a b c d id).2.1 (apV L a b c d id).2.2) (apV L a b c d id).2.2)
def bf(L:List St)(a b c d cone:Int):List D3:=((eJ L a b c d cone).take 6).map (fN L a b c d)
theorem iI(L:List St)(a b c d cone:Int):(bf L a b c d cone).length≤6:=by unfold bf;rw[List.length_map,List.length_take];omega
variable {cone id:Int}
theorem mz{L:List St}{a b c d:Int}:∀ {k:Nat},id∈bF L a b c d cone k→∃i,i<k∧id=(stA L i).1
 | 0,h=>by cases h
 | k+1,h=>by
  unfold bF at h;split at h
  ·rcases List.mem_append.1 h with h | h
   ·obtain⟨i,hi,e⟩:=mz h;exact⟨i,by omega,e⟩
   ·simp at h;exact⟨k,by omega,h⟩
  ·obtain⟨i,hi,e⟩:=mz h;exact⟨i,by omega,e⟩
theorem xU{L:List St}{a b c d:Int}(h:id∈eJ L a b c d cone):bc L=true∧aD a b c d=true∧∃i,i<L.length∧id=(stA L i).1:=by
 unfold eJ at h;split at h
 ·rename_i hc
  simp only[Bool.and_eq_true]at hc;exact⟨hc.1.1,hc.1.2,mz h⟩
 ·cases h
theorem Ah{L:List St}(hk:bc L=true){i:Nat}(hi:i<L.length):aU (atV L L.length (stA L i).1).1 (atV L L.length (stA L i).1).2.1 (atV L L.length (stA L i).1).2.2=true:=by
 rw[uk hk hi];exact fM ((cg hk).2 i hi)
theorem Cn{a b c d x y z:Int}(ht:aD a b c d=true)(h:aU x y z=true):aA (apX a b c d x y z) (apY a b c d x y z) (apZ a b c d x y z)=true:=by
 have h1:=(bI h).1;have h2:=aW.1 (bI h).2
 have hd:dot x y z x y z≤300:=by
  have s1:=bR (A:=10) (B:=10) (a:=x) (b:=x) (by omega) (by omega);have s2:=bR (A:=10) (B:=10) (a:=y) (b:=y) (by omega) (by omega);have s3:=bR (A:=10) (B:=10) (a:=z) (b:=z) (by omega) (by omega);unfold dot;omega
 have hb:=wg ht hd (M:=1000000) (by omega) (by omega);exact bz.2 ⟨aW.1 hb,Gr ht (bz.1 h1).2⟩
theorem DY{L:List St}{a b c d:Int}(h:id∈eJ L a b c d cone):inT 5 a b c d=true∧aR 1800 (atV L L.length id).1 (atV L L.length id).2.1 (atV L L.length id).2.2=true∧aA (apV L a b c d id).1 (apV L a b c d id).2.1 (apV L a b c d id).2.2=true∧1≤id∧id≤9999:=by
 obtain⟨hk,ht,i,hi,rfl⟩:=xU h;have hs:=Ah hk hi;refine⟨(bg.1 ht).1,?_,Cn ht hs,?_⟩
 ·have:=aW.1 (bI hs).2;exact aW.2 (by omega)
 ·have:=(cg hk).2 i hi;unfold eV idB at this;simp only[Bool.and_eq_true,decide_eq_true_eq]at this;omega
theorem rz(L:List St)(a b c d cone:Int):(eJ L a b c d cone).length≤12:=by
 unfold eJ;split
 ·rename_i h
  have:=my L a b c d cone L.length;simp only[Bool.and_eq_true]at h;have:=(cg h.1.1).1;omega
 ·simp
end
section
open Go.Value renaming int → J
open Go.IntKind renaming i64 → Z
open Go.RowKit Go.Sort
variable {w w':World}
theorem uz(h:Below w.heap.size w w'):w.grownBy w' none:=⟨h.os,h.tape,h.output,h.size,fun k hk _=>h.block k hk⟩
theorem pW{B:Nat}{t:TypeId}{v:Value}{n m:Nat}{xs:List Value}(h:w.ownsRow B t m v n xs)(hB:Below w.heap.size w w'):w'.ownsRow B t m v n xs:=
 h.kept (uz hB) (by cases hv:v.ownBlock<;>simp)
theorem aJ.grownW{b:Nat}{p q r s:Int}{row:Option Nat}(h:aJ w b p q r s)(hg:w.grownBy w' row)(hne:some b≠row):aJ w' b p q r s:=by
 obtain⟨h0,h1,h2,h3⟩:=h;exact⟨hg.cell h0 hne,hg.cell h1 hne,hg.cell h2 hne,hg.cell h3 hne⟩
theorem yv{s:St}{a b c d:Int}(cone:Int)(ht:aD a b c d=true)(hs:aU s.2.1 s.2.2.1 s.2.2.2=true):
  apR a b c d s.2.1 s.2.2.1 s.2.2.2=true:=by
 have hw:dy s.2.1 s.2.2.1 s.2.2.2=true:=by
  obtain⟨h1,h2⟩:=bI hs;have:=aW.1 h2;unfold dy;rw[h1];have h3:aR 1800 s.2.1 s.2.2.1 s.2.2.2=true:=aW.2 ⟨by omega,by omega,by omega⟩;rw[h3];rfl
 unfold apR;rw[ht,hw];rfl
theorem DT(L:List St)(a b c d cone:Int)(ar:Option Addr)(cap:Nat)(p:Addr)(w:World)(hn:L.length≤1048576)(hcap:L.length≤cap)(hc9:cap≤9223372036854775807)(hS:aZ w ar L L.length)(hE:bE p w):
  Calls Tryz.prog 145 #[.slice ar L.length cap,.agg #[J Z a,J Z b,J Z c,J Z d],J Z cone] w fun e w'=>∃v,e=.returned v∧w'.ownsRow (w.heap.size+1) 2 1 v (eJ L a b c d cone).length (mm (eJ L a b c d cone))∧Below w.heap.size w w':=by
 have cS:=yz (fun (W:World) hW hE=>fz L ar cap p W hn hcap hc9 hW hE);have HS:=yz hS;have HE:=yz hE;clear hS hE;have HV:=yz (show eJ L a b c d cone=if (bc L&&aD a b c d&&(decide (0≤cone)&&decide (cone≤100)))=true then bF L a b c d cone L.length else [] from rfl);have H12:Hid (bc L=true→L.length≤12∧vf L L.length):=yz (fun h=>cg h);generalize L.length=n at *;obtain⟨i0,hi,hz0,hz1,hz2⟩:=info_parts wP;have HB:=yz (an w (.cells #[J Z a,J Z b,J Z c,J Z d] 43));have HA:=yz (aP w a b c d 43);go_enter Tryz.func145,Tryz.ntmps145;go_wp2_with fail;refine(yy cS _ ((yy HS).kept (yy HB)) ((yy HE).kept (yy HB))).mono ?_;rintro e w1 ⟨rfl,hx⟩;have HB1:=ax HB hx;have HA1:=yz ((yy HA).kept (by simp) hx);clear hx HB HA;cases hk:bc L
 ·rw[hk]at HV;clear hk;go_wp2_with fail;go_ret;exact⟨_,rfl,by rw[yy HV];exact World.ownsRow_nil _ _ _ _,yy HB1⟩
 obtain⟨h12,hok⟩:=yy H12 hk;have HO:=yz hok;rw[hk]at HV;clear hk hok;have va:=yy HA1;obtain⟨c0,c1,c2,c3⟩:=va;go_wp2_with fail;refine(bw a b c d _).mono ?_;rintro e w2 ⟨rfl,hx⟩;have HB2:=ax HB1 hx;have HA2:=yz ((yy HA1).kept (yy HA1).lt hx);clear hx HB1 HA1 c0 c1 c2 c3;cases hr:aD a b c d
 ·rw[hr]at HV;clear hr;go_wp2_with fail;go_ret;exact⟨_,rfl,by rw[yy HV];exact World.ownsRow_nil _ _ _ _,yy HB2⟩
 rw[hr]at HV;by_cases hc0:cone<0
 ·have hd:decide (0≤cone)=false:=by simp;omega
  rw[hd]at HV;clear hd hr;go_wp2_with fail;go_ret;exact⟨_,rfl,by rw[yy HV];exact World.ownsRow_nil _ _ _ _,yy HB2⟩
 by_cases hc1:100<cone
 ·have hd:decide (cone≤100)=false:=by simp;omega
  rw[hd,Bool.and_false]at HV;have hc0':decide (cone<0)=false:=by simpa using hc0
  clear hd hr;go_wp2_with fail;go_ret;exact⟨_,rfl,by rw[yy HV];exact World.ownsRow_nil _ _ _ _,yy HB2⟩
 have hd0:decide (0≤cone)=true:=by simp;omega
 have hd1:decide (cone≤100)=true:=by simp;omega
 rw[hd0,hd1]at HV;have HV':Hid (eJ L a b c d cone=bF L a b c d cone n):=yz (by rw[yy HV];rfl);have HR:=yz hr;have hc0':decide (cone<0)=false:=by simpa using hc0
 clear HV hd0 hd1 hr;rcases yy HS with rfl | ⟨b0,o,rfl,hb,hc⟩
 ·go_wp2_with fail;refine wp_loop_rounds 1 ?_;rw[rounds_succ];go_wp2_with fail;go_ret;exact⟨_,rfl,by rw[yy HV'];exact World.ownsRow_nil _ _ _ _,yy HB2⟩
 have HC:=yz hc;clear hc;go_wp2_with fail;clear hc0' hc0 hc1;go_loopw [7,28] (fun v i wr=>∃k:Nat,k≤n∧i=J Z k∧Hid (wr.ownsRow (w.heap.size+1) 2 1 v (bF L a b c d cone k).length (mm (bF L a b c d cone k)))∧Hid (Below w.heap.size w wr)∧Hid (aJ wr w.heap.size a b c d)) (fun _ i _=>n-(intOf i).toNat)
 case atStart=>exact⟨0,by omega,rfl,yz (World.ownsRow_nil _ _ _ _),HB2,HA2⟩
 case round=>
  clear HB2 HA2;obtain⟨k,hk,rfl,HW,HB,HA⟩:=hrel;by_cases hkn:k<n
  ·obtain⟨⟨s1,s2,s3,s4⟩,hs⟩:∃s,stA L k=s:=⟨_,rfl⟩
   have hst:=((yy HC) k hkn).kept hb (yy HB);have hsm:=fM ((yy HO) k hkn);rw[hs]at hst hsm;obtain⟨c0,c1,c2,c3⟩:=hst;have hap:apR a b c d s2 s3 s4=true:=yv (s:=(s1,s2,s3,s4)) cone (yy HR) hsm;have cA:Hid (∀W:World,Calls Tryz.prog 148 #[.agg #[J Z a,J Z b,J Z c,J Z d],.agg #[J Z s2,J Z s3,J Z s4]] W fun e w'=>e=.returned (.agg #[J Z (apX a b c d s2 s3 s4),J Z (apY a b c d s2 s3 s4),J Z (apZ a b c d s2 s3 s4)])∧Below W.heap.size W w'):=yz (fun W=>(sS a b c d s2 s3 s4 W).mono fun e w' h=>⟨by rw[h.1,hap];rfl,h.2⟩);have HQ:Hid (sW (stA L k) a b c d cone=lT (apX a b c d s2 s3 s4) (apY a b c d s2 s3 s4) (apZ a b c d s2 s3 s4) cone):=yz (by rw[hs];rfl);have HT:=yz hs;generalize apX a b c d s2 s3 s4=x at cA HQ;generalize apY a b c d s2 s3 s4=y at cA HQ;generalize apZ a b c d s2 s3 s4=z at cA HQ;clear hs hsm hap;have B1:=yz ((yy HB).alloc (yy HB).size (.cells #[J Z s1,J Z s2,J Z s3,J Z s4] 74));have A1:=yz ((yy HA).alloc (.cells #[J Z s1,J Z s2,J Z s3,J Z s4] 74));have N1:=yz (fW wr (s1,s2,s3,s4) 74);have W1:=yz ((yy HW).alloc (.cells #[J Z s1,J Z s2,J Z s3,J Z s4] 74));obtain⟨d0,d1,d2,d3⟩:=yy A1;go_wp2_with fail;clear c0 c1 c2 c3 d0 d1 d2 d3 HW HB HA;generalize wr.alloc (.cells #[J Z s1,J Z s2,J Z s3,J Z s4] 74)=V1 at B1 A1 N1 W1 ⊢;generalize wr.heap.size=bs at N1 ⊢;refine(yy cA _).mono ?_;rintro e V2 ⟨rfl,hx⟩;have B2:=ax B1 hx;have A2:=yz ((yy A1).kept (yy A1).lt hx);have N2:=yz ((yy N1).kept (World.block_lt_of_cell? _ _ (yy N1).1) hx);have W2:=yz (pW (yy W1) hx);clear hx B1 A1 N1 W1 cA;go_wp2_with fail;refine(yP x y z cone _).mono ?_;rintro e V3 ⟨rfl,hx⟩;have B3:=ax B2 hx;have A3:=yz ((yy A2).kept (yy A2).lt hx);have N3:=yz ((yy N2).kept (World.block_lt_of_cell? _ _ (yy N2).1) hx);have hown:=pW (yy W2) hx;clear hx B2 A2 N2 W2;rw[←yy HQ];have hlen:=my L a b c d cone k;cases hq:sW (stA L k) a b c d cone
   ·have HE2:Hid (bF L a b c d cone (k+1)=bF L a b c d cone k):=yz (by show (if _ then _ else _)=_;rw[hq];rfl);have W3:=yz hown;clear hown hq;go_wp2_with fail;go_roundw
    case rel=>exact⟨k+1,by omega,by go_num,by rw[yy HE2];exact W3,B3,A3⟩
    case measure=>simp[intOf];omega
   ·have HE2:Hid (bF L a b c d cone (k+1)=bF L a b c d cone k ++ [s1]):=yz (by show (if _ then _ else _)=_;rw[hq,yy HT];rfl);clear hq;obtain⟨e0,_,_,_⟩:=yy N3;have hsz:=(yy B3).size;have hbl:w.heap.size<V3.heap.size:=(yy A3).lt;go_wp2_with (at_builtin;refine wpList_append_own _ rfl _ _ 81 rfl (w.heap.size+1) 2 i0 (J Z 0) 1 8 Tryz.underlying81 hi hz0 hz1 hz2 rfl (by decide) _ _ _ rfl (hown.alloc _) ⟨V3.heap.size,0,none⟩ 1 1 [J Z s1] rfl rfl ?c1 ?c2 ?c3 ?c4 ?c5 ?_)
    case c1=>
     intro j x hj
     match j,hj with
     | 0,hj=>simp at hj;subst hj;simp[Addr.add]
    case c2=>intro x hx;simp at hx;subst hx;rfl
    case c3=>unfold maxLen;omega
    case c4=>omega
    case c5=>simp;omega
    intro v' V4 hown' hgrow _;have hne:some w.heap.size≠u7.ownBlock:=fun e=>by have:=(hown.lt _ e.symm).1;omega
    have A4:=yz (((yy A3).alloc (.cells #[J Z s1] 2)).grownW hgrow hne);have B4:=yz (wK (w2:=V4) ((yy B3).alloc (yy B3).size (.cells #[J Z s1] 2)) (by simp;omega) (World.ownsRow_weak (hown.alloc (.cells #[J Z s1] 2))) hgrow);have W4:Hid (V4.ownsRow (w.heap.size+1) 2 1 v' (bF L a b c d cone (k+1)).length (mm (bF L a b c d cone (k+1)))):=yz (by rw[yy HE2];simpa[mm] using hown');clear hown' hown hgrow hne A3 B3 N3 e0;go_wp2_with fail;go_roundw
    case rel=>exact⟨k+1,by omega,by go_num,W4,B4,A4⟩
    case measure=>simp[intOf];omega
  ·have hkn':k=n:=by omega
   subst hkn';go_wp2_with fail;go_ret;exact⟨_,rfl,by rw[yy HV'];exact yy HW,yy HB⟩
theorem wL{wr wx:World}{A b o1 o2 o3:Nat}{p q r s x y z:Int}(ht:aJ wr A p q r s)(h1:wr.cell? ⟨b,o1,none⟩=some (J Z x))(h2:wr.cell? ⟨b,o2,none⟩=some (J Z y))(h3:wr.cell? ⟨b,o3,none⟩=some (J Z z))(h:Below wr.heap.size wr wx):
  ((wx.cell? ⟨A,0,none⟩=some (J Z p)∧wx.cell? ⟨A,1,none⟩=some (J Z q)∧wx.cell? ⟨A,2,none⟩=some (J Z r)∧wx.cell? ⟨A,3,none⟩=some (J Z s))∧(wx.cell? ⟨b,o1,none⟩=some (J Z x)∧wx.cell? ⟨b,o2,none⟩=some (J Z y)∧wx.cell? ⟨b,o3,none⟩=some (J Z z)))∧Below wr.heap.size wr wx:=by
 have hb:=World.block_lt_of_cell? wr _ h1;obtain⟨k0,k1,k2,k3⟩:=ht.kept ht.lt h;exact⟨⟨⟨k0,k1,k2,k3⟩,by rw[h.cell (p:=⟨b,o1,none⟩) hb];exact h1,by rw[h.cell (p:=⟨b,o2,none⟩) hb];exact h2,by rw[h.cell (p:=⟨b,o3,none⟩) hb];exact h3⟩,h⟩
theorem wV(L:List St)(a b c d cone:Int)(ar:Option Addr)(cap:Nat)(w:World)(hk:bc L=true)(hr:aD a b c d=true)(hS:aZ w ar L L.length):
  Calls Tryz.prog 77 #[.slice ar L.length cap,.agg #[J Z a,J Z b,J Z c,J Z d],J Z cone] w fun e w'=>∃v,e=.returned v∧w'.ownsRow (w.heap.size+1) 2 1 v (bF L a b c d cone L.length).length (mm (bF L a b c d cone L.length))∧Below w.heap.size w w':=by
 obtain⟨h12,hok⟩:=cg hk;have HO:=yz hok;have HR:=yz hr;have HI:Hid (inT 5 a b c d=true):=yz (bg.1 hr).1;clear hk hok hr;generalize L.length=n at *;obtain⟨i0,hi,hz0,hz1,hz2⟩:=info_parts wP;have HB0:=yz ((an w (.cells #[J Z a,J Z b,J Z c,J Z d] 43)).alloc (by simp) (.cells #[] 2));have HA0:=yz ((aP w a b c d 43).alloc (.cells #[] 2));have HW0:=yz (World.ownsRow_lit (base:=w.heap.size+1) (e:=2) (size:=1) (w.alloc (.cells #[J Z a,J Z b,J Z c,J Z d] 43)) #[] 0 (by simp) (by simp[maxLen]) rfl);go_enter Tryz.func77,Tryz.ntmps77;go_wp2_with fail;rcases hS with rfl | ⟨b0,o,rfl,hb,hc⟩
 ·refine wp_loop_rounds 1 ?_;rw[rounds_succ];go_wp2_with fail;go_ret;exact⟨_,rfl,by simpa[bF,mm] using yy HW0,yy HB0⟩
 have HC:=yz hc;clear hc;go_loopw [7,8] (fun v i wr=>∃k:Nat,k≤n∧i=J Z k∧Hid (wr.ownsRow (w.heap.size+1) 2 1 v (bF L a b c d cone k).length (mm (bF L a b c d cone k)))∧Hid (Below w.heap.size w wr)∧Hid (aJ wr w.heap.size a b c d)) (fun _ i _=>n-(intOf i).toNat)
 case atStart=>exact⟨0,by omega,rfl,yz (by simpa[bF,mm] using yy HW0),HB0,HA0⟩
 case round=>
  clear HB0 HA0 HW0;obtain⟨k,hk,rfl,HW,HB,HA⟩:=hrel;by_cases hkn:k<n
  ·obtain⟨⟨s1,s2,s3,s4⟩,hs⟩:∃s,stA L k=s:=⟨_,rfl⟩
   have hst:=((yy HC) k hkn).kept hb (yy HB);have hsm:=fM ((yy HO) k hkn);rw[hs]at hst hsm;have HST:=yz hst;obtain⟨c0,c1,c2,c3⟩:=hst
   have hw18:aR 1800 s2 s3 s4=true:=by
    have hsm2:aU s2 s3 s4=true:=hsm;have:=aW.1 (bI hsm2).2;exact aW.2 ⟨by omega,by omega,by omega⟩
   have cA:=yz (fun W=>jY a b c d s2 s3 s4 W (yy HI) hw18);have HQ:Hid (sW (stA L k) a b c d cone=lT (apX a b c d s2 s3 s4) (apY a b c d s2 s3 s4) (apZ a b c d s2 s3 s4) cone):=yz (by rw[hs];rfl);have HT:=yz hs;generalize apX a b c d s2 s3 s4=x at cA HQ;generalize apY a b c d s2 s3 s4=y at cA HQ;generalize apZ a b c d s2 s3 s4=z at cA HQ;have hkn2:(k:Int)<(n:Int):=by omega
   clear hs hsm hw18;go_wp2_with fail;have K1:=yz c1;have K2:=yz c2;have K3:=yz c3;clear c0 c1 c2 c3;go_cut [9] (fun s wx=>∃bb,s=.pointer (some ⟨bb,0,none⟩)∧aK wx bb x y z∧Below wr.heap.size wr wx)
   case first=>
    go_region_held (fun w'=>((w'.cell? ⟨w.heap.size,0,none⟩=some (J Z a)∧w'.cell? ⟨w.heap.size,1,none⟩=some (J Z b)∧w'.cell? ⟨w.heap.size,2,none⟩=some (J Z c)∧w'.cell? ⟨w.heap.size,3,none⟩=some (J Z d))∧(w'.cell? ⟨b0,o+k*4+1,none⟩=some (J Z s2)∧w'.cell? ⟨b0,o+k*4+2,none⟩=some (J Z s3)∧w'.cell? ⟨b0,o+k*4+3,none⟩=some (J Z s4)))∧Below wr.heap.size wr w') (first | exact wL (yy HA) (yy K1) (yy K2) (yy K3) (Below.refl _ _).drew | exact wL (yy HA) (yy K1) (yy K2) (yy K3) (BT (by assumption) _) | exact wL (yy HA) (yy K1) (yy K2) (yy K3) (by assumption) | exact wL (yy HA) (yy K1) (yy K2) (yy K3) (rR (by assumption) _) | exact wL (yy HA) (yy K1) (yy K2) (yy K3) (Ed (by assumption) (by first | exact Nat.le_refl _ | exact Below.size (by assumption)) _ _ _)) ((go_at_call 55;refine(yy cA _).mono ?_;rintro e wn ⟨rfl,hx⟩;have hw:=Ec (w1:=wr) hx (by assumption);first | (have hr:AC wn wr.heap.size:=EU hx;have hr2:=hr;obtain⟨⟨r0,r1,r2⟩,f0,f1,f2⟩:=hr2) | (have hr:=Gb hx;have hr2:=hr;obtain⟨⟨r0,r1,r2⟩,f0,f1,f2⟩:=hr2) | (have hr:=EM (by assumption) hx;have hr2:=hr;obtain⟨⟨r0,r1,r2⟩,f0,f1,f2⟩:=hr2) | skip))
    all_goals (go_wp2_with fail;go_meet;refine⟨_,rfl,?_,?_⟩)
    all_goals first | (with_reducible exact aM _ _ _ _ _) | (with_reducible exact rR (by assumption) _) | (with_reducible exact zK (by assumption) _ _ _) | (with_reducible exact wl (by assumption) (by first | exact Nat.le_refl _ | exact Below.size (by assumption)) _ _ _) | trace_state
   case rest=>
    obtain⟨bb,rfl,v5,hx⟩:=hcut;have B2:=ax HB hx;have A2:=yz ((yy HA).kept (yy HA).lt hx);have W2:=yz (pW (yy HW) hx);have S2:=yz ((yy HST).kept (World.block_lt_of_cell? _ _ (yy HST).1) hx);obtain⟨v0,v1,v2⟩:=v5;have r0:=cell_regrown v0;have r1:=cell_regrown v1;have r2:=cell_regrown v2;have cQ:=yz (fun W=>fU x y z x y z W);have HD:Hid (lT x y z cone=(decide (0<z)&&decide (wrap64 (wrap64 (cone*cone)*bG x y z x y z)≤wrap64 (wrap64 (10000*z)*z)))):=yz rfl;generalize bG x y z x y z=dd at cQ HD;obtain⟨m1,hm1⟩:∃m,wrap64 (10000*z)=m:=⟨_,rfl⟩
    obtain⟨m2,hm2⟩:∃m,wrap64 (m1*z)=m:=⟨_,rfl⟩
    obtain⟨m3,hm3⟩:∃m,wrap64 (cone*cone)=m:=⟨_,rfl⟩
    obtain⟨m4,hm4⟩:∃m,wrap64 (m3*dd)=m:=⟨_,rfl⟩
    rw[hm1,hm2,hm3,hm4]at HD;clear hx HB HA HW HST K1 K2 K3 cA v0 v1 v2;have hlen:=my L a b c d cone k;go_wp2_with fail;go_cut [42] (fun s wx=>s=.bool (sW (stA L k) a b c d cone)∧Below wc.heap.size wc wx)
    case first=>
     by_cases hz:0<z
     ·have HC2:Hid (lT x y z cone=decide (m4≤m2)):=yz (by rw[yy HD];simp[hz]);refine dg ?_;repeat (go_big_quiet_step (with_reducible first | exact aO cQ))
      refine dv fun dq osq=>?_;have hx:=below_regrown wc dq osq;go_wp2_with fail;go_meet
      case rel=>exact⟨by rw[yy HQ,yy HC2],hx⟩
     ·have hz':decide (0<z)=false:=by simpa using hz
      have HC2:Hid (lT x y z cone=false):=yz (by rw[yy HD,hz'];rfl);refine dg ?_;repeat (go_big_quiet_step (with_reducible first | exact aO cQ))
      refine dv fun dq osq=>?_;have hx:=below_regrown wc dq osq;go_wp2_with fail;go_meet
      case rel=>exact⟨by rw[yy HQ,yy HC2],hx⟩
    case rest=>
     obtain⟨rfl,hx⟩:=hcut;have B3:=ax B2 hx;have A3:=yz ((yy A2).kept (yy A2).lt hx);have S3:=yz ((yy S2).kept (World.block_lt_of_cell? _ _ (yy S2).1) hx);have hown:=pW (yy W2) hx;clear hx B2 A2 W2 S2 r0 r1 r2 cQ HD hm1 hm2 hm3 hm4;cases hq:sW (stA L k) a b c d cone
     ·have HE2:Hid (bF L a b c d cone (k+1)=bF L a b c d cone k):=yz (by show (if _ then _ else _)=_;rw[hq];rfl);have W3:=yz hown;clear hown hq;go_wp2_with fail;go_roundw
      case rel=>exact⟨k+1,by omega,by go_num,by rw[yy HE2];exact W3,B3,A3⟩
      case measure=>simp[intOf];omega
     ·have HE2:Hid (bF L a b c d cone (k+1)=bF L a b c d cone k ++ [s1]):=yz (by show (if _ then _ else _)=_;rw[hq,yy HT];rfl);clear hq;obtain⟨e0,_,_,_⟩:=yy S3;have hsz:=(yy B3).size;have hbl:w.heap.size<wc.heap.size:=(yy A3).lt;go_wp2_with (at_builtin;refine wpList_append_own _ rfl _ _ 81 rfl (w.heap.size+1) 2 i0 (J Z 0) 1 8 Tryz.underlying81 hi hz0 hz1 hz2 rfl (by decide) _ _ _ rfl (hown.alloc _) ⟨wc.heap.size,0,none⟩ 1 1 [J Z s1] rfl rfl ?c1 ?c2 ?c3 ?c4 ?c5 ?_)
      case c2=>rfl
      case c3=>unfold maxLen;omega
      case c4=>omega
      intro v' V4 hown' hgrow _;have hne:some w.heap.size≠u7.ownBlock:=fun e=>by have:=(hown.lt _ e.symm).1;omega
      have A4:=yz (((yy A3).alloc (.cells #[J Z s1] 2)).grownW hgrow hne);have B4:=yz (wK (w2:=V4) ((yy B3).alloc (yy B3).size (.cells #[J Z s1] 2)) (by simp;omega) (World.ownsRow_weak (hown.alloc (.cells #[J Z s1] 2))) hgrow);have W4:Hid (V4.ownsRow (w.heap.size+1) 2 1 v' (bF L a b c d cone (k+1)).length (mm (bF L a b c d cone (k+1)))):=yz (by rw[yy HE2];simpa[mm] using hown');clear hown' hown hgrow hne A3 B3 S3 e0;go_wp2_with fail;go_roundw
      case rel=>exact⟨k+1,by omega,by go_num,W4,B4,A4⟩
      case measure=>simp[intOf];omega
  ·have hkn':k=n:=by omega
   subst hkn';go_wp2_with fail;go_ret;exact⟨_,rfl,yy HW,yy HB⟩
theorem vG(L:List St)(a b c d cone:Int)(ar:Option Addr)(cap:Nat)(w:World)(hn:L.length≤1048576)(hS:aZ w ar L L.length):
  Calls Tryz.prog 54 #[.slice ar L.length cap,.agg #[J Z a,J Z b,J Z c,J Z d],J Z cone] w fun e w'=>∃v,e=.returned v∧w'.ownsRow (w.heap.size+1) 2 1 v (eJ L a b c d cone).length (mm (eJ L a b c d cone))∧Below w.heap.size w w':=by
 have cS:=yz (fun (W:World) hW=>jh L ar cap W hn hW);have cA:=yz (fun (W:World) hk hr hW=>wV L a b c d cone ar cap W hk hr hW);have HS:=yz hS;clear hS;have HV:=yz (show eJ L a b c d cone=if (bc L&&aD a b c d&&(decide (0≤cone)&&decide (cone≤100)))=true then bF L a b c d cone L.length else [] from rfl);have H12:Hid (bc L=true→L.length≤12):=yz (fun h=>(cg h).1);generalize L.length=n at *;have HB:=yz (an w (.cells #[J Z a,J Z b,J Z c,J Z d] 43));have HA:=yz (aP w a b c d 43)
 have none:∀(W:World),Below w.heap.size w W→w.heap.size+1≤W.heap.size→(W.alloc (.cells #[] 2)).ownsRow (w.heap.size+1) 2 1 (.slice (some ⟨W.heap.size,0,none⟩) 0 0) 0 []∧Below w.heap.size w (W.alloc (.cells #[] 2)):=fun W h1 h2=>
  ⟨World.ownsRow_lit W #[] 0 h2 (by simp[maxLen]) rfl,h1.alloc h1.size _⟩
 have HN:=yz none;clear none;by_cases hbig:(400:Int)<(n:Int)
 ·have hk:bc L=false:=by cases h:bc L with | false=>rfl | true=>have:=yy H12 h;omega
  rw[hk]at HV;clear hk;go_enter Tryz.func54,Tryz.ntmps54;go_wp2_with fail;go_ret;exact⟨_,rfl,by rw[yy HV];simpa using yy HN _ (yy HB) (by simp)⟩
 have hbig':decide ((400:Int)<(n:Int))=false:=by simpa using hbig
 go_enter Tryz.func54,Tryz.ntmps54;go_wp2_with fail;refine(yy cS _ ((yy HS).kept (yy HB))).mono ?_;rintro e w1 ⟨rfl,hx⟩;have HB1:=ax HB hx;have HA1:=yz ((yy HA).kept (by simp) hx);clear hx HB HA;have hl1:w.heap.size+1≤w1.heap.size:=(yy HA1).lt;cases hk:bc L
 ·rw[hk]at HV;clear hk;go_wp2_with fail;go_ret;exact⟨_,rfl,by rw[yy HV];exact yy HN _ (yy HB1) hl1⟩
 rw[hk]at HV;have va:=yy HA1;obtain⟨c0,c1,c2,c3⟩:=va;have HK:=yz hk;clear hk;go_wp2_with fail;refine(bu a b c d _).mono ?_;rintro e w2 ⟨rfl,hx⟩;have HB2:=ax HB1 hx;have HA2:=yz ((yy HA1).kept (yy HA1).lt hx);clear hx HB1 HA1 c0 c1 c2 c3;have hl2:w.heap.size+1≤w2.heap.size:=(yy HA2).lt;cases hr:aD a b c d
 ·rw[hr]at HV;clear hr;go_wp2_with fail;go_ret;exact⟨_,rfl,by rw[yy HV];exact yy HN _ (yy HB2) hl2⟩
 rw[hr]at HV;have HR:=yz hr;clear hr;go_wp2_with fail;refine(eh cone 0 100 _).mono ?_;rintro e w3 ⟨rfl,hw⟩;rw[hw];clear hw w3;cases hc:(decide (0≤cone)&&decide (cone≤100))
 ·rw[hc]at HV;clear hc;go_wp2_with fail;go_ret;exact⟨_,rfl,by rw[yy HV];exact yy HN _ (yy HB2) hl2⟩
 rw[hc]at HV;have HV':Hid (eJ L a b c d cone=bF L a b c d cone n):=yz (by rw[yy HV];rfl);clear hc HV;have va:=yy HA2;obtain⟨c0,c1,c2,c3⟩:=va;go_wp2_with fail;refine(yy cA _ (yy HK) (yy HR) ((yy HS).kept (yy HB2))).mono ?_;rintro e w4 ⟨v,rfl,ho,hx⟩;have HO:Hid (w4.ownsRow (w.heap.size+1) 2 1 v (bF L a b c d cone n).length (mm (bF L a b c d cone n))):=yz (World.ownsRow_less ho (by omega));have HB4:=ax HB2 hx;clear hx ho c0 c1 c2 c3;go_wp2_with fail;go_ret;exact⟨_,rfl,by rw[yy HV'];exact yy HO,yy HB4⟩
end
section
structure Tk where
 L:List St
 lim:Int
 mode:Int
 A:Int
 B:Int
 C:Int
 D:Int
 coast:Int
 fr:Int
def dX(lo hi x:Int):Bool:=decide (lo≤x)&&decide (x≤hi)
def jd(t:Tk):Bool:=
 if t.mode=0 then eqT t.A t.B t.C t.D 0 0 0 0&&decide (t.coast=0)
 else if t.mode=1 then aD t.A t.B t.C t.D&&decide (t.coast=0)
 else if t.mode=2 then aD t.A t.B t.C t.D&&dX 1 t.lim t.coast
 else false
def nj(t:Tk):Bool:=bc t.L&&dX 1 5 t.lim&&dX 0 1000000 t.fr
def aH(t:Tk):Bool:=nj t&&jd t
variable {hi x:Int}
theorem nP{lo:Int}(h1:lo≤x)(h2:x≤hi):dX lo hi x=true:=by unfold dX;rw[decide_eq_true h1,decide_eq_true h2];rfl
theorem rD{lo:Int}(h:¬lo≤x):dX lo hi x=false:=by unfold dX;rw[decide_eq_false h];rfl
theorem tS{lo:Int}(h:¬x≤hi):dX lo hi x=false:=by unfold dX;rw[decide_eq_false h];simp
theorem nO{lo:Int}:dX lo hi x=true↔lo≤x∧x≤hi:=by unfold dX;simp
theorem lH{t:Tk}(h:bc t.L=false):aH t=false:=by unfold aH nj;rw[h];rfl
theorem lI{t:Tk}(h:dX 1 5 t.lim=false):aH t=false:=by unfold aH nj;rw[h];simp
theorem lJ{t:Tk}(h:dX 0 1000000 t.fr=false):aH t=false:=by unfold aH nj;rw[h];simp
theorem mG{t:Tk}(h1:bc t.L=true)(h2:dX 1 5 t.lim=true)(h3:dX 0 1000000 t.fr=true):aH t=jd t:=by unfold aH nj;rw[h1,h2,h3];rfl
theorem zf{t:Tk}(h:t.mode=0):jd t=(eqT t.A t.B t.C t.D 0 0 0 0&&decide (t.coast=0)):=by unfold jd;rw[if_pos h]
theorem kU{t:Tk}(h:t.mode=1):jd t=(aD t.A t.B t.C t.D&&decide (t.coast=0)):=by unfold jd;rw[if_neg (by omega),if_pos h]
theorem ms{t:Tk}(h:t.mode=2):jd t=(aD t.A t.B t.C t.D&&dX 1 t.lim t.coast):=by unfold jd;rw[if_neg (by omega),if_neg (by omega),if_pos h]
theorem oF{t:Tk}(h0:t.mode≠0)(h1:t.mode≠1)(h2:t.mode≠2):jd t=false:=by unfold jd;rw[if_neg h0,if_neg h1,if_neg h2]
theorem BX{t:Tk}(h:aH t=true):bc t.L=true:=by
 cases hq:bc t.L
 ·rw[lH hq]at h;cases h
 ·rfl
theorem Ei{t:Tk}(h:aH t=true):0≤t.fr∧t.fr≤1000000:=by
 cases hq:dX 0 1000000 t.fr
 ·rw[lJ hq]at h;cases h
 ·exact nO.1 hq
theorem ko{t:Tk}(h:aH t=true):jd t=true:=by unfold aH at h;rw[Bool.and_eq_true]at h;exact h.2
theorem mH{t:Tk}(h:aH t=true)(h0:t.mode≠0):aD t.A t.B t.C t.D=true:=by
 have hm:=ko h;by_cases h1:t.mode=1
 ·rw[kU h1,Bool.and_eq_true]at hm;exact hm.1
 ·by_cases h2:t.mode=2
  ·rw[ms h2,Bool.and_eq_true]at hm;exact hm.1
  ·rw[oF h0 h1 h2]at hm;cases hm
def qY(t:Tk):Tk:={ t with mode:=0,A:=0,B:=0,C:=0,D:=0,coast:=0 }
def fO:Tk:=⟨[],0,0,0,0,0,0,0,0⟩
end
section
open Go.Value renaming int → J
open Go.IntKind renaming i64 → Z
open Go.RowKit
def dN(w:World)(b:Nat)(p q r s k:Int):Prop:=w.cell? ⟨b,0,none⟩=some (J Z p)∧w.cell? ⟨b,1,none⟩=some (J Z q)∧w.cell? ⟨b,2,none⟩=some (J Z r)∧w.cell? ⟨b,3,none⟩=some (J Z s)∧w.cell? ⟨b,4,none⟩=some (J Z k)
def iT(w:World)(b:Nat):Prop:=w.frozen? ⟨b,0,none⟩=false∧w.frozen? ⟨b,1,none⟩=false∧w.frozen? ⟨b,2,none⟩=false∧w.frozen? ⟨b,3,none⟩=false∧w.frozen? ⟨b,4,none⟩=false
variable {p q r s:Int} {w w':World}
theorem dN.lt{b:Nat}{k:Int}(h:dN w b p q r s k):b<w.heap.size:=World.block_lt_of_cell? w _ h.1
theorem dN.kept{b:Nat}{k:Int}(h:dN w b p q r s k)(hB:Below w.heap.size w w'):dN w' b p q r s k:=by
 have hb:=h.lt;obtain⟨h0,h1,h2,h3,h4⟩:=h;exact⟨by rw[hB.cell (p:=⟨b,0,none⟩) hb];exact h0,by rw[hB.cell (p:=⟨b,1,none⟩) hb];exact h1,by rw[hB.cell (p:=⟨b,2,none⟩) hb];exact h2,by rw[hB.cell (p:=⟨b,3,none⟩) hb];exact h3,by rw[hB.cell (p:=⟨b,4,none⟩) hb];exact h4⟩
theorem iT.kept{b:Nat}(h:iT w b)(hb:b<w.heap.size)(hB:Below w.heap.size w w'):iT w' b:=by
 obtain⟨h0,h1,h2,h3,h4⟩:=h;exact⟨by rw[hB.frozen (p:=⟨b,0,none⟩) hb];exact h0,by rw[hB.frozen (p:=⟨b,1,none⟩) hb];exact h1,by rw[hB.frozen (p:=⟨b,2,none⟩) hb];exact h2,by rw[hB.frozen (p:=⟨b,3,none⟩) hb];exact h3,by rw[hB.frozen (p:=⟨b,4,none⟩) hb];exact h4⟩
theorem dl(w:World)(p q r s k:Int)(t:TypeId):dN (w.alloc (.cells #[J Z p,J Z q,J Z r,J Z s,J Z k] t)) w.heap.size p q r s k:=by
 refine⟨?_,?_,?_,?_,?_⟩<;>simp
theorem fZ(w:World)(p q r s k:Int)(t:TypeId):iT (w.alloc (.cells #[J Z p,J Z q,J Z r,J Z s,J Z k] t)) w.heap.size:=by
 refine⟨?_,?_,?_,?_,?_⟩<;>simp
theorem dN.alloc{b:Nat}{k:Int}(h:dN w b p q r s k)(o:Obj):dN (w.alloc o) b p q r s k:=h.kept (an _ _)
end
section
open Go.Value renaming int → J
open Go.IntKind renaming i64 → Z
open Go.RowKit Go.Sort
theorem pU{a b c d:Int}(h:(inT 1000 a b c d && !iO a b c d)=false):Value.agg #[J Z (ofP a b c d a),J Z (ofP a b c d b),J Z (ofP a b c d c),J Z (ofP a b c d d),J Z (ofC a b c d)]=Value.agg #[J Z 0,J Z 0,J Z 0,J Z 0,J Z 1]:=by
 unfold ofP;rw[Du h];rfl
theorem uZ{a b c d:Int}(h1:inT 1000 a b c d=true)(h2:iO a b c d=false)(h:aD (a.tdiv (sT a b c d)) (b.tdiv (sT a b c d)) (c.tdiv (sT a b c d)) (d.tdiv (sT a b c d))=false):Value.agg #[J Z (ofP a b c d a),J Z (ofP a b c d b),J Z (ofP a b c d c),J Z (ofP a b c d d),J Z (ofC a b c d)]=Value.agg #[J Z 0,J Z 0,J Z 0,J Z 0,J Z 9]:=by
 have e:ofC a b c d=9:=by unfold ofC;rw[h1,h2,h];rfl
 unfold ofP;rw[e];rfl
theorem Dv{a b c d:Int}(h1:inT 1000 a b c d=true)(h2:iO a b c d=false)(h:aD (a.tdiv (sT a b c d)) (b.tdiv (sT a b c d)) (c.tdiv (sT a b c d)) (d.tdiv (sT a b c d))=true):Value.agg #[J Z (ofP a b c d a),J Z (ofP a b c d b),J Z (ofP a b c d c),J Z (ofP a b c d d),J Z (ofC a b c d)]=Value.agg #[J Z (a.tdiv (sT a b c d)),J Z (b.tdiv (sT a b c d)),J Z (c.tdiv (sT a b c d)),J Z (d.tdiv (sT a b c d)),J Z 0]:=by
 have e:ofC a b c d=0:=by unfold ofC;rw[h1,h2,h];rfl
 unfold ofP;rw[e];rfl
theorem zG(a b c d:Int)(w:World):
  Calls Tryz.prog 139 #[J Z a,J Z b,J Z c,J Z d] w fun e w'=>e=.returned (.agg #[J Z (ofP a b c d a),J Z (ofP a b c d b),J Z (ofP a b c d c),J Z (ofP a b c d d),J Z (ofC a b c d)])∧Below w.heap.size w w':=by
 have he:=fun w=>na a b c d 0 0 0 0 w;cases hz:eqT a b c d 0 0 0 0
 ·rw[hz]at he;have HZ:=yz (show iO a b c d=false from hz);clear hz;go_enter Tryz.func139,Tryz.ntmps139;go_wp2_with fail;refine(lc 1000 a b c d _ (by omega) (by omega)).mono ?_;rintro e w1 ⟨rfl,hB1⟩;have vr:dN w1 w.heap.size 0 0 0 0 0:=((dl w 0 0 0 0 0 _).alloc _).kept hB1;have fr:iT w1 w.heap.size:=((fZ w 0 0 0 0 0 _).kept (by simp) (an _ _)).kept (by simp;omega) hB1;have va:aJ w1 (w.heap.size+1) a b c d:=(by simpa using aP (w.alloc _) a b c d _:aJ _ (w.heap.size+1) a b c d).kept (by simp) hB1;have hB:Below w.heap.size w w1:=ak (aX _ _ _) hB1;clear hB1 he;cases hi:inT 1000 a b c d
  ·have HR:=yz (pU (a:=a) (b:=b) (c:=c) (d:=d) (by rw[hi];rfl));obtain⟨cr0,cr1,cr2,cr3,cr4⟩:=vr;obtain⟨fr0,fr1,fr2,fr3,fr4⟩:=fr;go_wp2_with fail;exact bodyPost_ret (v:=.agg #[J Z 0,J Z 0,J Z 0,J Z 0,J Z 1]) (by simp[results,Tryz.results139,go_sem,cr0,cr1,cr2,cr3,cr4]) rfl ⟨by rw[yy HR],bd hB (by omega) _ _ _ _ _⟩
  ·have hva:=va;obtain⟨ca0,ca1,ca2,ca3⟩:=va;go_wp2_with fail;refine(po a b c d _ hi (lf (yy HZ))).mono ?_;rintro e w2 ⟨rfl,hB2⟩;have hlt:=vr.lt;replace vr:=vr.kept hB2;replace fr:=fr.kept hlt hB2;replace hB:=ak hB hB2;clear hB2 hva ca0 ca1 ca2 ca3;cases hr:aD (a.tdiv (sT a b c d)) (b.tdiv (sT a b c d)) (c.tdiv (sT a b c d)) (d.tdiv (sT a b c d))
   ·have HR:=yz (uZ hi (yy HZ) hr);generalize a.tdiv (sT a b c d)=p at hr ⊢;generalize b.tdiv (sT a b c d)=q at hr ⊢;generalize c.tdiv (sT a b c d)=r at hr ⊢;generalize d.tdiv (sT a b c d)=s at hr ⊢;have vr1:=vr.alloc (.cells #[J Z p,J Z q,J Z r,J Z s] 43);have fr1:=fr.kept vr.lt (an w2 (.cells #[J Z p,J Z q,J Z r,J Z s] 43));have hB1:=hB.alloc (Nat.le_of_lt (vr.lt)) (.cells #[J Z p,J Z q,J Z r,J Z s] 43);go_wp2_with fail;refine(bw p q r s _).mono ?_;rintro e w3 ⟨rfl,hB3⟩;rw[hr];have hlt:=vr1.lt;replace vr:=vr1.kept hB3;replace fr:=fr1.kept hlt hB3;replace hB:=ak hB1 hB3;clear hB3 vr1 fr1 hB1;obtain⟨cr0,cr1,cr2,cr3,cr4⟩:=vr;obtain⟨fr0,fr1,fr2,fr3,fr4⟩:=fr;go_wp2_with fail;exact bodyPost_ret (v:=.agg #[J Z 0,J Z 0,J Z 0,J Z 0,J Z 9]) (by simp[results,Tryz.results139,go_sem,cr0,cr1,cr2,cr3,cr4]) rfl ⟨by rw[yy HR],bd hB (by omega) _ _ _ _ _⟩
   ·have HR:=yz (Dv hi (yy HZ) hr);generalize a.tdiv (sT a b c d)=p at hr HR ⊢;generalize b.tdiv (sT a b c d)=q at hr HR ⊢;generalize c.tdiv (sT a b c d)=r at hr HR ⊢;generalize d.tdiv (sT a b c d)=s at hr HR ⊢;have vr1:=vr.alloc (.cells #[J Z p,J Z q,J Z r,J Z s] 43);have fr1:=fr.kept vr.lt (an w2 (.cells #[J Z p,J Z q,J Z r,J Z s] 43));have vt1:=aP w2 p q r s 43;have hB1:=hB.alloc (Nat.le_of_lt (vr.lt)) (.cells #[J Z p,J Z q,J Z r,J Z s] 43);go_wp2_with fail;refine(bw p q r s _).mono ?_;rintro e w3 ⟨rfl,hB3⟩;rw[hr];have hlt:=vr1.lt;replace vr:=vr1.kept hB3;replace fr:=fr1.kept hlt hB3;have vt:=vt1.kept vt1.lt hB3;replace hB:=ak hB1 hB3;clear hB3 vr1 fr1 hB1 vt1;obtain⟨cr0,cr1,cr2,cr3,cr4⟩:=vr;obtain⟨fr0,fr1,fr2,fr3,fr4⟩:=fr;obtain⟨ct0,ct1,ct2,ct3⟩:=vt;go_wp2_with fail;exact bodyPost_ret (v:=.agg #[J Z p,J Z q,J Z r,J Z s,J Z 0]) (by simp[results,Tryz.results139,go_sem,cr0,cr1,cr2,cr3,cr4]) rfl ⟨by rw[yy HR],bd hB (by omega) _ _ _ _ _⟩
 ·rw[hz]at he;have HR:=yz (pU (a:=a) (b:=b) (c:=c) (d:=d) (by rw[show iO a b c d=true from hz];simp));go_enter Tryz.func139,Tryz.ntmps139;go_wp2_with fail;exact bodyPost_ret (v:=.agg #[J Z 0,J Z 0,J Z 0,J Z 0,J Z 1]) (by simp[results,Tryz.results139,go_sem]) rfl ⟨by rw[yy HR],aX _ _ _⟩
theorem GA{a b c d:Int}(h:inT 1000 a b c d=true)(g:Int)(hg:g=sT a b c d):wrap64 (a.tdiv g)=a.tdiv (sT a b c d)∧wrap64 (b.tdiv g)=b.tdiv (sT a b c d)∧wrap64 (c.tdiv g)=c.tdiv (sT a b c d)∧wrap64 (d.tdiv g)=d.tdiv (sT a b c d):=by
 subst hg;obtain⟨x1,x2,x3,x4⟩:=bU.1 h;have key:∀(x s:Int),-1000≤x∧x≤1000→wrap64 (x.tdiv s)=x.tdiv s:=fun x s hx=>by have:=Av (s:=s) hx;exact au (by omega) (by omega)
 exact⟨key _ _ x1,key _ _ x2,key _ _ x3,key _ _ x4⟩
theorem Bi(a b c d:Int)(w:World)(h:inT 1000 a b c d=true)(hz:iO a b c d=false):
  Calls Tryz.prog 98 #[.agg #[J Z a,J Z b,J Z c,J Z d]] w fun e w'=>e=.returned (.agg #[J Z (ofP a b c d a),J Z (ofP a b c d b),J Z (ofP a b c d c),J Z (ofP a b c d d),J Z (ofC a b c d)])∧Below w.heap.size w w':=by
 have HI:=yz h;have HZ:=yz hz;have HN:Hid (sT a b c d≠0):=yz (FD (lf hz));have HW:=yz (GA h);have hw:wrap64 (-gT a b c d) = -gT a b c d:=by have:=oy h 4;rw[show gS4 a b c d 4=gT a b c d from qI a b c d]at this;exact au (by omega) (by omega)
 clear h hz;go_enter Tryz.func98,Tryz.ntmps98;go_wp2_with fail;refine(qR a b c d _ (yy HI)).mono ?_;rintro e w1 ⟨rfl,hB1⟩;have va:aJ w1 w.heap.size a b c d:=((aP w a b c d _).alloc _).kept (by simp;omega) hB1;have vr:dN w1 (w.heap.size+1) 0 0 0 0 0:=(by simpa using dl (w.alloc _) 0 0 0 0 0 _:dN _ (w.heap.size+1) 0 0 0 0 0).kept hB1;have fr:iT w1 (w.heap.size+1):=(by simpa using fZ (w.alloc _) 0 0 0 0 0 _:iT _ (w.heap.size+1)).kept (by simp) hB1;have hB:Below w.heap.size w w1:=ak (aX _ _ _) hB1;clear hB1;have hva:=va;obtain⟨ca0,ca1,ca2,ca3⟩:=va;go_wp2_with fail;refine(jZ a b c d _).mono ?_;rintro e w2 ⟨rfl,hB2⟩;have hlt:=vr.lt;have va:=hva.kept hva.lt hB2;replace vr:=vr.kept hB2;replace fr:=fr.kept hlt hB2;replace hB:=ak hB hB2;clear hB2 hva ca0 ca1 ca2 ca3 hlt;by_cases hf:fT a b c d<0
 ·have hs:sT a b c d = -gT a b c d:=by unfold sT;rw[if_pos hf]
  have HG:=yz hs.symm;rw[hs]at HN;have va2:=va.alloc (.cells #[J Z 0,J Z 0,J Z 0,J Z 0] 43);obtain⟨ca0,ca1,ca2,ca3⟩:=va;obtain⟨cb0,cb1,cb2,cb3⟩:=va2;go_wp2_with fail;rw[hw];generalize -gT a b c d=g at HN HG ⊢;clear hw hs hf;have hne:g≠0:=yy HN;have hz0:(g==0)=false:=by simpa using hne
  go_region
  go_wp2_with fail;obtain⟨e1,e2,e3,e4⟩:=yy HW g (yy HG);rw[e1,e2,e3,e4];clear e1 e2 e3 e4 HW cb0 cb1 cb2 cb3 ca0 ca1 ca2 ca3;cases hr:aD (a.tdiv (sT a b c d)) (b.tdiv (sT a b c d)) (c.tdiv (sT a b c d)) (d.tdiv (sT a b c d))
  ·have HR:=yz (uZ (yy HI) (yy HZ) hr);generalize a.tdiv (sT a b c d)=p at hr ⊢;generalize b.tdiv (sT a b c d)=q at hr ⊢;generalize c.tdiv (sT a b c d)=r at hr ⊢;generalize d.tdiv (sT a b c d)=s at hr ⊢;have hx:=(an w2 (.cells #[J Z p,J Z q,J Z r,J Z s] 43)).drew;have hlt:=vr.lt;replace vr:=vr.kept hx;replace fr:=fr.kept hlt hx;replace hB:=ak hB hx;clear hx hlt;refine(bu p q r s _).mono ?_;rintro e w3 ⟨rfl,hB3⟩;rw[hr];have hlt:=vr.lt;replace vr:=vr.kept hB3;replace fr:=fr.kept hlt hB3;replace hB:=ak hB hB3;clear hB3 hlt;obtain⟨cr0,cr1,cr2,cr3,cr4⟩:=vr;obtain⟨fr0,fr1,fr2,fr3,fr4⟩:=fr;go_wp2_with fail;exact bodyPost_ret (v:=.agg #[J Z 0,J Z 0,J Z 0,J Z 0,J Z 9]) (by simp[results,Tryz.results98,go_sem,cr0,cr1,cr2,cr3,cr4]) rfl ⟨by rw[yy HR],bd hB (by omega) _ _ _ _ _⟩
  ·have HR:=yz (Dv (yy HI) (yy HZ) hr);generalize a.tdiv (sT a b c d)=p at hr HR ⊢;generalize b.tdiv (sT a b c d)=q at hr HR ⊢;generalize c.tdiv (sT a b c d)=r at hr HR ⊢;generalize d.tdiv (sT a b c d)=s at hr HR ⊢;have hx:=(an w2 (.cells #[J Z p,J Z q,J Z r,J Z s] 43)).drew;have hlt:=vr.lt;have vt1:aJ (w2.alloc (.cells #[J Z p,J Z q,J Z r,J Z s] 43)).drew w2.heap.size p q r s:=aP w2 p q r s _;replace vr:=vr.kept hx;replace fr:=fr.kept hlt hx;replace hB:=ak hB hx;clear hx hlt;refine(bu p q r s _).mono ?_;rintro e w3 ⟨rfl,hB3⟩;rw[hr];have hlt:=vr.lt;replace vr:=vr.kept hB3;replace fr:=fr.kept hlt hB3;replace vt1:=vt1.kept vt1.lt hB3;obtain⟨ct0,ct1,ct2,ct3⟩:=vt1;replace hB:=ak hB hB3;clear hB3 hlt;obtain⟨cr0,cr1,cr2,cr3,cr4⟩:=vr;obtain⟨fr0,fr1,fr2,fr3,fr4⟩:=fr;go_wp2_with fail;exact bodyPost_ret (v:=.agg #[J Z p,J Z q,J Z r,J Z s,J Z 0]) (by simp[results,Tryz.results98,go_sem,cr0,cr1,cr2,cr3,cr4]) rfl ⟨by rw[yy HR],bd hB (by omega) _ _ _ _ _⟩
 ·have hs:sT a b c d=gT a b c d:=by unfold sT;rw[if_neg hf]
  have HG:=yz hs.symm;rw[hs]at HN;have va2:=va.alloc (.cells #[J Z 0,J Z 0,J Z 0,J Z 0] 43);obtain⟨ca0,ca1,ca2,ca3⟩:=va;obtain⟨cb0,cb1,cb2,cb3⟩:=va2;go_wp2_with fail;generalize gT a b c d=g at HN HG ⊢;clear hw hs hf;have hne:g≠0:=yy HN;have hz0:(g==0)=false:=by simpa using hne
  go_region
  go_wp2_with fail;obtain⟨e1,e2,e3,e4⟩:=yy HW g (yy HG);rw[e1,e2,e3,e4];clear e1 e2 e3 e4 HW cb0 cb1 cb2 cb3 ca0 ca1 ca2 ca3;cases hr:aD (a.tdiv (sT a b c d)) (b.tdiv (sT a b c d)) (c.tdiv (sT a b c d)) (d.tdiv (sT a b c d))
  ·have HR:=yz (uZ (yy HI) (yy HZ) hr);generalize a.tdiv (sT a b c d)=p at hr ⊢;generalize b.tdiv (sT a b c d)=q at hr ⊢;generalize c.tdiv (sT a b c d)=r at hr ⊢;generalize d.tdiv (sT a b c d)=s at hr ⊢;have hx:=(an w2 (.cells #[J Z p,J Z q,J Z r,J Z s] 43)).drew;have hlt:=vr.lt;replace vr:=vr.kept hx;replace fr:=fr.kept hlt hx;replace hB:=ak hB hx;clear hx hlt;refine(bu p q r s _).mono ?_;rintro e w3 ⟨rfl,hB3⟩;rw[hr];have hlt:=vr.lt;replace vr:=vr.kept hB3;replace fr:=fr.kept hlt hB3;replace hB:=ak hB hB3;clear hB3 hlt;obtain⟨cr0,cr1,cr2,cr3,cr4⟩:=vr;obtain⟨fr0,fr1,fr2,fr3,fr4⟩:=fr;go_wp2_with fail;exact bodyPost_ret (v:=.agg #[J Z 0,J Z 0,J Z 0,J Z 0,J Z 9]) (by simp[results,Tryz.results98,go_sem,cr0,cr1,cr2,cr3,cr4]) rfl ⟨by rw[yy HR],bd hB (by omega) _ _ _ _ _⟩
  ·have HR:=yz (Dv (yy HI) (yy HZ) hr);generalize a.tdiv (sT a b c d)=p at hr HR ⊢;generalize b.tdiv (sT a b c d)=q at hr HR ⊢;generalize c.tdiv (sT a b c d)=r at hr HR ⊢;generalize d.tdiv (sT a b c d)=s at hr HR ⊢;have hx:=(an w2 (.cells #[J Z p,J Z q,J Z r,J Z s] 43)).drew;have hlt:=vr.lt;have vt1:aJ (w2.alloc (.cells #[J Z p,J Z q,J Z r,J Z s] 43)).drew w2.heap.size p q r s:=aP w2 p q r s _;replace vr:=vr.kept hx;replace fr:=fr.kept hlt hx;replace hB:=ak hB hx;clear hx hlt;refine(bu p q r s _).mono ?_;rintro e w3 ⟨rfl,hB3⟩;rw[hr];have hlt:=vr.lt;replace vr:=vr.kept hB3;replace fr:=fr.kept hlt hB3;replace vt1:=vt1.kept vt1.lt hB3;obtain⟨ct0,ct1,ct2,ct3⟩:=vt1;replace hB:=ak hB hB3;clear hB3 hlt;obtain⟨cr0,cr1,cr2,cr3,cr4⟩:=vr;obtain⟨fr0,fr1,fr2,fr3,fr4⟩:=fr;go_wp2_with fail;exact bodyPost_ret (v:=.agg #[J Z p,J Z q,J Z r,J Z s,J Z 0]) (by simp[results,Tryz.results98,go_sem,cr0,cr1,cr2,cr3,cr4]) rfl ⟨by rw[yy HR],bd hB (by omega) _ _ _ _ _⟩
theorem kW(a b c d:Int)(w:World):
  Calls Tryz.prog 70 #[J Z a,J Z b,J Z c,J Z d] w fun e w'=>e=.returned (.agg #[J Z (ofP a b c d a),J Z (ofP a b c d b),J Z (ofP a b c d c),J Z (ofP a b c d d),J Z (ofC a b c d)])∧Below w.heap.size w w':=by
 go_enter Tryz.func70,Tryz.ntmps70;go_wp2_with fail;refine(lX 1000 a b c d _ (by omega) (by omega)).mono ?_;rintro e w1 ⟨rfl,hB1⟩;have vr:dN w1 w.heap.size 0 0 0 0 0:=((dl w 0 0 0 0 0 _).alloc _).kept hB1;have fr:iT w1 w.heap.size:=((fZ w 0 0 0 0 0 _).kept (by simp) (an _ _)).kept (by simp;omega) hB1;have va:aJ w1 (w.heap.size+1) a b c d:=(by simpa using aP (w.alloc _) a b c d _:aJ _ (w.heap.size+1) a b c d).kept (by simp) hB1;have hB:Below w.heap.size w w1:=ak (aX _ _ _) hB1;clear hB1;cases hi:inT 1000 a b c d
 ·have HR:=yz (pU (a:=a) (b:=b) (c:=c) (d:=d) (by rw[hi];rfl));obtain⟨cr0,cr1,cr2,cr3,cr4⟩:=vr;obtain⟨fr0,fr1,fr2,fr3,fr4⟩:=fr;go_wp2_with fail;exact bodyPost_ret (v:=.agg #[J Z 0,J Z 0,J Z 0,J Z 0,J Z 1]) (by simp[results,Tryz.results70,go_sem,cr0,cr1,cr2,cr3,cr4]) rfl ⟨by rw[yy HR],bd hB (by omega) _ _ _ _ _⟩
 ·have hva:=va;obtain⟨ca0,ca1,ca2,ca3⟩:=va;go_wp2_with fail;refine(jZ a b c d _).mono ?_;rintro e w2 ⟨rfl,hB2⟩;have hlt:=vr.lt;replace vr:=vr.kept hB2;replace fr:=fr.kept hlt hB2;have va:=hva.kept hva.lt hB2;replace hB:=ak hB hB2;clear hB2 hva ca0 ca1 ca2 ca3 hlt;by_cases hf:fT a b c d=0
  ·have HR:=yz (pU (a:=a) (b:=b) (c:=c) (d:=d) (by rw[jJ.2 (pR.1 hf)];simp));rw[hf];obtain⟨cr0,cr1,cr2,cr3,cr4⟩:=vr;obtain⟨fr0,fr1,fr2,fr3,fr4⟩:=fr;go_wp2_with fail;exact bodyPost_ret (v:=.agg #[J Z 0,J Z 0,J Z 0,J Z 0,J Z 1]) (by simp[results,Tryz.results70,go_sem,cr0,cr1,cr2,cr3,cr4]) rfl ⟨by rw[yy HR],bd hB (by omega) _ _ _ _ _⟩
  ·have HZ:Hid (iO a b c d=false):=yz (by rw[←Bool.not_eq_true,jJ];exact fun e=>hf (pR.2 e));have hb:(fT a b c d==0)=false:=by simpa using hf
   clear hf;obtain⟨ca0,ca1,ca2,ca3⟩:=va;go_wp2_with fail;refine(Bi a b c d _ hi (yy HZ)).mono ?_;rintro e w3 ⟨rfl,hB3⟩;have hlt:=vr.lt;replace vr:=vr.kept hB3;replace fr:=fr.kept hlt hB3;replace hB:=ak hB hB3;clear hB3 ca0 ca1 ca2 ca3 hlt;obtain⟨cr0,cr1,cr2,cr3,cr4⟩:=vr;obtain⟨fr0,fr1,fr2,fr3,fr4⟩:=fr;go_wp2_with fail;exact bodyPost_ret (v:=.agg #[J Z (ofP a b c d a),J Z (ofP a b c d b),J Z (ofP a b c d c),J Z (ofP a b c d d),J Z (ofC a b c d)]) (by simp[results,Tryz.results70,go_sem,cr0,cr1,cr2,cr3,cr4]) rfl ⟨rfl,bd hB (by omega) _ _ _ _ _⟩
end
section
open Go.RowKit Go.Sort
def vV(w:World)(a:Option Addr)(n:Nat)(row:Option Nat):Prop:=(n=0∧row=none)∨∃g f,a=some ⟨g,0,none⟩∧row=some g∧fA w 74 g (n*4) f
def Mkd(w:World)(a:Option Addr)(n:Nat)(row:Option Nat):Prop:=(n=0∧row=none)∨∃g,a=some ⟨g,0,none⟩∧row=some g∧fA w 74 g (n*4) (fun j=>1+(j:Int))
variable {v:Value} {w w':World}
theorem vV.kept{a:Option Addr}{n:Nat}{row:Option Nat}(h:vV w a n row)(hB:Below w.heap.size w w'):vV w' a n row:=by
 rcases h with h | ⟨g,f,h1,h2,h3⟩
 ·exact .inl h
 ·exact .inr ⟨g,f,h1,h2,h3.kept hB⟩
theorem Mkd.kept{a:Option Addr}{n:Nat}{row:Option Nat}(h:Mkd w a n row)(hB:Below w.heap.size w w'):Mkd w' a n row:=by
 rcases h with h | ⟨g,h1,h2,h3⟩
 ·exact .inl h
 ·exact .inr ⟨g,h1,h2,h3.kept hB⟩
theorem vV.lt{a:Option Addr}{n:Nat}{row:Option Nat}(h:vV w a n row){g:Nat}(e:row=some g):g<w.heap.size:=by
 rcases h with ⟨_,h⟩ | ⟨g',f,h1,h2,h3⟩
 ·rw[h]at e;cases e
 ·rw[h2]at e;obtain rfl:=Option.some.inj e;exact h3.lt
theorem oi{B:Nat}{w1 w2:World}{row:Option Nat}(h:Below B w w1)(hg:w1.grownBy w2 row)(hB:B≤w1.heap.size)(hr:∀g,row=some g→B≤g):Below B w w2:=
 h.trans ⟨hg.os,hg.tape,hg.output,hg.size,fun k hk=>hg.block k (by omega) (fun e=>by have:=hr k e.symm;omega)⟩
def dR(L:List St):List Value:=L.flatMap stC
theorem iC(L:List St):(dR L).length=L.length*4:=by
 unfold dR
 induction L with
 | nil=>rfl
 | cons x l ih=>simp[List.flatMap_cons,stC]at *;omega
theorem ou(L:List St):∀(i:Nat),i<L.length→(dR L)[i*4]? = some (.int .i64 (stA L i).1)∧(dR L)[i*4+1]? = some (.int .i64 (stA L i).2.1)∧(dR L)[i*4+2]? = some (.int .i64 (stA L i).2.2.1)∧(dR L)[i*4+3]? = some (.int .i64 (stA L i).2.2.2):=by
 induction L with
 | nil=>intro i hi;simp at hi
 | cons x l ih=>
  intro i hi
  match i with
  | 0=>exact⟨rfl,rfl,rfl,rfl⟩
  | i+1=>
   have h:=ih i (by simpa using hi)
   have e:∀r,(dR (x :: l))[(i+1)*4+r]? = (dR l)[i*4+r]?:=fun r=>by
    rw[show (i+1)*4+r=(i*4+r)+4 by omega];rfl
   have e2:stA (x :: l) (i+1)=stA l i:=rfl;rw[e2];exact⟨by have:=e 0;simp only[Nat.add_zero]at this;rw[this];exact h.1,by rw[e 1];exact h.2.1,by rw[e 2];exact h.2.2.1,by rw[e 3];exact h.2.2.2⟩
theorem oL{B:Nat}{L:List St}(h:w.ownsRow B 74 4 v L.length (dR L)):∃a cap,v=.slice a L.length cap∧L.length≤cap∧cap≤maxLen∧aZ w a L L.length:=by
 rcases h.2 with ⟨h1,h0⟩ | ⟨g,cap,cur,hv,hb,hg,hnc,hcm,hcs,htake⟩
 ·exact⟨none,0,by rw[h1,h0],by omega,Nat.zero_le _,.inl h0⟩
 ·refine⟨_,cap,hv,hnc,hcm,.inr ⟨g,0,rfl,(Array.getElem?_eq_some_iff.1 hg).1,fun i hi=>?_⟩⟩
  have hc:∀j,j<L.length*4→w.cell? ⟨g,j,none⟩=(dR L)[j]?:=fun j hj=>by
   rw[cell_of_row w g j cur _ _ hg,←htake,List.getElem?_take,if_pos hj];simp
  obtain⟨e0,e1,e2,e3⟩:=ou L i hi;rw[Nat.zero_add];exact⟨by rw[hc _ (by omega)];exact e0,by rw[hc _ (by omega)];exact e1,by rw[hc _ (by omega)];exact e2,by rw[hc _ (by omega)];exact e3⟩
theorem qC(L:List St)(j:Nat)(hj:j<L.length*4):∃z,(dR L)[j]? = some (.int .i64 z):=by
 obtain⟨e0,e1,e2,e3⟩:=ou L (j / 4) (by omega);have h:j=j / 4*4∨j=j / 4*4+1∨j=j / 4*4+2∨j=j / 4*4+3:=by omega
 rcases h with h | h | h | h
 ·rw[h];exact⟨_,e0⟩
 ·rw[h];exact⟨_,e1⟩
 ·rw[h];exact⟨_,e2⟩
 ·rw[h];exact⟨_,e3⟩
theorem Fa{B:Nat}{L:List St}{a:Option Addr}{cap:Nat}(h:w.ownsRow B 74 4 v L.length (dR L))(hv:v=.slice a L.length cap):∃row,vV w a L.length row∧∀g,row=some g→B≤g:=by
 rcases h.2 with ⟨h1,h0⟩ | ⟨g,cap',cur,hv',hb,hg,hnc,hcm,hcs,htake⟩
 ·exact⟨none,.inl ⟨h0,rfl⟩,fun g e=>by cases e⟩
 ·rw[hv]at hv';injection hv' with e1 e2 e3;refine⟨some g,.inr ⟨g,fun j=>if h:j<L.length*4 then Classical.choose (qC L j h) else 0,e1,rfl,cur,hg,fun j hj=>?_⟩,fun g' e=>by obtain rfl:=Option.some.inj e;exact hb⟩
  have e4:cur[j]? = (dR L)[j]?:=by
   rw[←htake,List.getElem?_take,if_pos hj];simp
  rw[e4];simp only[hj,dif_pos];exact Classical.choose_spec (qC L j hj)
def nums(l:List Nat):List Value:=l.map fun (n:Nat)=>Value.int .i64 (n:Int)
variable {xs:List Value} {g m:Nat} {f:Nat→Value} {v:Value} {w w2:World}
theorem Blk.grown{b:Nat}{cs:List Value}{t:TypeId}{row:Option Nat}(h:Blk w b cs t)(hg:w.grownBy w2 row)(hne:some b≠row):Blk w2 b cs t:=(hg.block b h.lt hne).trans h
theorem dz.grown{t:TypeId}{row:Option Nat}(h:dz w t g m f)(hg:w.grownBy w2 row)(hne:some g≠row):dz w2 t g m f:=h.same (hg.block g h.lt hne)
theorem dz.drewn{t:TypeId}(h:dz w t g m f):dz w.drew t g m f:=h.same rfl
theorem bA{w':World}{B:Nat}{t:TypeId}{n:Nat}(h:w.ownsRow B t m v n xs)(hB:Below w.heap.size w w'):w'.ownsRow B t m v n xs:=
 h.kept (row:=none) ⟨hB.os,hB.tape,hB.output,hB.size,fun k hk _=>hB.block k hk⟩ (by cases hv:v.ownBlock<;>simp)
theorem dz.other{t:TypeId}(h:dz w t g m f)(a:Addr)(v:Value)(hne:g≠a.block):dz (w.setCell a v) t g m f:=h.same (heap_setCell_other w a g v hne)
theorem ek{B:Nat}{t:TypeId}{n:Nat}(h:w.ownsRow B t m v n xs):∃a c,v=.slice a n c:=by
 rcases h.2 with ⟨h1,h0⟩ | ⟨g,cap,cur,hv,_⟩
 ·exact⟨none,0,by rw[h1,h0]⟩
 ·exact⟨_,cap,hv⟩
theorem dm{w:World}{B B' n m:Nat}{t:TypeId}{v:Value}{xs:List Value}(h:w.ownsRow B t m v n xs)(hb:B'≤B):w.ownsRow B' t m v n xs:=by
 obtain⟨h1,h2⟩:=h;refine⟨h1,?_⟩;rcases h2 with h2 | ⟨g,cap,cur,e,hg,r⟩
 ·exact .inl h2
 ·exact .inr ⟨g,cap,cur,e,by omega,r⟩
theorem Dp(w:World)(vs:List Value)(t:TypeId):∀(j:Nat) (u:Value),vs[j]? = some u→(w.alloc (.cells vs.toArray t)).cell? ((⟨w.heap.size,0,none⟩:Addr).add j)=some u:=by
 intro j u hj;have e:(⟨w.heap.size,0,none⟩:Addr).add j=⟨w.heap.size,j,none⟩:=by cases j<;>simp[Addr.add]
 rw[e];simp[hj]
theorem wW(x y z:Int)(w:World):
  Calls Tryz.prog 79 #[.agg #[.int .i64 x,.int .i64 y,.int .i64 z]] w fun e w'=>e=.returned (.bool (dy x y z))∧Below w.heap.size w w':=by
 have A0:=aM w x y z 72;have B0:=an w (.cells #[.int .i64 x,.int .i64 y,.int .i64 z] 72);have cR:=yz (fun W=>jm x y z W);have cW:=yz (fun W=>gP 1800 x y z W (by omega) (by omega));have HW:Hid (dy x y z=(aA x y z&&aR 1800 x y z)):=yz rfl;generalize dy x y z=wv at *;generalize aR 1800 x y z=wi at *;go_enter Tryz.func79,Tryz.ntmps79;go_wp2_with fail;refine(yy cR _).mono ?_;rintro e w1 ⟨rfl,hx⟩;obtain⟨c0,c1,c2⟩:=A0.kept (World.block_lt_of_cell? _ _ A0.1) hx;have B1:=ak B0 hx;clear hx B0 A0;cases hr:aA x y z
 ·rw[hr]at HW;go_wp2_with fail;go_ret;exact⟨by rw[yy HW];rfl,B1⟩
 ·rw[hr]at HW;go_wp2_with fail;refine(yy cW _).mono ?_;rintro e w2 ⟨rfl,hx⟩;have B2:=ak B1 hx;clear hx B1;go_wp2_with fail;go_ret;exact⟨by rw[yy HW];rfl,B2⟩
theorem wQ:(Tryz.prog.info? 72).map (fun i=>(i.zero,i.size,i.bytes))=some (some (.agg #[.int .i64 0,.int .i64 0,.int .i64 0]),3,24):=by kernel_rfl
def Fk(v:Int×Int×Int):List Value:=[.int .i64 v.1,.int .i64 v.2.1,.int .i64 v.2.2]
def eT(S:List (Int×Int×Int)):List Value:=S.flatMap Fk
theorem tm(A B:List (Int×Int×Int)):eT (A ++ B)=eT A ++ eT B:=by unfold eT;rw[List.flatMap_append]
theorem qE{S:List (Int×Int×Int)}{v:Value}(h:v∈eT S):v.oneCell'=true:=by
 unfold eT at h;rw[List.mem_flatMap]at h;obtain⟨p,_,hp⟩:=h;simp[Fk]at hp;rcases hp with rfl | rfl | rfl<;>rfl
theorem BC(w:World)(B:Nat)(h:B≤w.heap.size):(w.alloc (.cells #[] 72)).ownsRow B 72 3 (.slice (some ⟨w.heap.size,0,none⟩) 0 0) 0 (eT []):=
 ⟨rfl,.inr ⟨_,0,#[],rfl,h,Array.getElem?_push_size,Nat.le_refl _,Nat.zero_le _,rfl,rfl⟩⟩
def spT(wd ht:Int)(s:ByteArray)(fo:Int)(b:Bl):Int×Int×Int:=
 (spI (Gh b.su b.sx b.sy wd ht s fo) (spX b.sx wd b.su) (spX b.sy ht b.su) (spZ fo b.su) (spX b.sx wd b.su),spI (Gh b.su b.sx b.sy wd ht s fo) (spX b.sx wd b.su) (spX b.sy ht b.su) (spZ fo b.su) (spX b.sy ht b.su),spI (Gh b.su b.sx b.sy wd ht s fo) (spX b.sx wd b.su) (spX b.sy ht b.su) (spZ fo b.su) (spZ fo b.su))
def CZ(wd ht:Int)(s:ByteArray)(fo:Int)(b:Bl):Bool:=Gu b.ar b.ed 1 20&&dy (spT wd ht s fo b).1 (spT wd ht s fo b).2.1 (spT wd ht s fo b).2.2
end
section
open Go.RowKit Go.Sort
end
section
open Go.RowKit Go.Sort
end
end Go.Proofs.YtdchjcadhlkpfaaGreatDoor
