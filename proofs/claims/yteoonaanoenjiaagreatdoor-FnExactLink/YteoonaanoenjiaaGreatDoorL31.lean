/- Several texts in one: SpB, IeH, IeI, IeJ, IeK, IeL, IeN, IeO, IeQ. -/
import Derived.RangeFuncNested
import Derived.RangeFuncBound
import Derived.RangeFuncCalls
import Derived.RangeFuncLeaves
import Derived.Shelf.Abstract
import Derived.Shelf.RegionOpen
import Derived.OwnWalkIn
import Derived.TacticsInMore
import Derived.LoopNIn
import Derived.LoopIn
import Derived.Maps.OwnIn
import Derived.BigRegionIn
import Derived.Test.YteoonaanoenjiaaGreatDoorL30
namespace Go.Proofs.YteoonaanoenjiaaGreatDoor
set_option linter.unusedVariables false
set_option linter.unusedSimpArgs false
set_option maxRecDepth 100000
set_option maxHeartbeats 8000000
section
open Go.Value renaming int → J
open Go.IntKind renaming i64 → Z
open Go.RowKit Go.Sort
theorem isD(lo n hi:Int):(decide (lo≤n)&&decide (n≤hi))=decide (lo≤n∧n≤hi):=by rw[Bool.decide_and]
variable {s:ByteArray}
theorem FF{su sx sy wd ht fo:Int}(h:di wd ht s=false):jg su sx sy wd ht s fo=false:=by unfold jg;rw[h];simp
theorem FG{su sx sy wd ht fo:Int}(h:mJ fo=false):jg su sx sy wd ht s fo=false:=by unfold jg;rw[h];simp
theorem wN{su sx sy wd ht fo:Int}(h:kF su sx sy=false):jg su sx sy wd ht s fo=false:=by unfold jg;rw[h];simp
theorem FH{su sx sy wd ht fo:Int}(h:kF su sx sy=true)(h1:di wd ht s=true)(h2:mJ fo=true):jg su sx sy wd ht s fo=true:=by unfold jg;rw[h,h1,h2];rfl
theorem sP(ar su sx sy:Int)(ed:Bool)(wd ht:Int)(s:ByteArray)(fo:Int)(w:World):
  Calls Tryz.prog 111 #[.agg #[J Z ar,J Z su,J Z sx,J Z sy,.bool ed],.agg #[J Z wd,J Z ht,.string s],J Z fo] w fun e w'=>e=.returned (spV su sx sy wd ht s fo)∧Below w.heap.size w w':=by
 have A0:=((ap w [J Z ar,J Z su,J Z sx,J Z sy,.bool ed] 163).alloc (.cells #[J Z wd,J Z ht,.string s] 43)).alloc (.cells #[J Z 0,J Z 0,J Z 0] 111);have D0:=(ap (w.alloc (.cells #[J Z ar,J Z su,J Z sx,J Z sy,.bool ed] 163)) [J Z wd,J Z ht,.string s] 43).alloc (.cells #[J Z 0,J Z 0,J Z 0] 111);have R0:=ap ((w.alloc (.cells #[J Z ar,J Z su,J Z sx,J Z sy,.bool ed] 163)).alloc (.cells #[J Z wd,J Z ht,.string s] 43)) [J Z 0,J Z 0,J Z 0] 111;have B0:=bq w (.cells #[J Z ar,J Z su,J Z sx,J Z sy,.bool ed] 163) (.cells #[J Z wd,J Z ht,.string s] 43) (.cells #[J Z 0,J Z 0,J Z 0] 111);have e1:(w.alloc (.cells #[J Z ar,J Z su,J Z sx,J Z sy,.bool ed] 163)).heap.size=w.heap.size+1:=by simp
 have e2:((w.alloc (.cells #[J Z ar,J Z su,J Z sx,J Z sy,.bool ed] 163)).alloc (.cells #[J Z wd,J Z ht,.string s] 43)).heap.size=w.heap.size+1+1:=by simp
 rw[e1]at D0;rw[e2]at R0;clear e1 e2;go_enter Tryz.func111,Tryz.ntmps111;go_wp2_with fail;generalize ((w.alloc (.cells #[J Z ar,J Z su,J Z sx,J Z sy,.bool ed] 163)).alloc (.cells #[J Z wd,J Z ht,.string s] 43)).alloc (.cells #[J Z 0,J Z 0,J Z 0] 111)=W0 at A0 D0 R0 B0 ⊢;obtain⟨ob,hob⟩:∃ob,ob=w.heap.size+1+1:=⟨_,rfl⟩
 obtain⟨db,hdb⟩:∃db,db=w.heap.size+1:=⟨_,rfl⟩
 obtain⟨fb,hfb⟩:∃fb,fb=w.heap.size:=⟨_,rfl⟩
 rw[←hob]at R0 ⊢;rw[←hdb]at D0 ⊢;rw[←hfb]at A0 ⊢;have lob:w.heap.size≤ob:=by omega
 clear hob hdb hfb;refine(gl wd ht s _).mono ?_;rintro e W1 ⟨rfl,hx⟩;have A1:=A0.kept hx;have D1:=D0.kept hx;have R1:=R0.kept hx;have B1:=aj B0 hx;clear hx A0 D0 R0 B0;cases k1:di wd ht s
 case false=>
  obtain⟨r0,r1,r2⟩:=eP (R1);have g0:=tB (R1);have HV:Hid (spV su sx sy wd ht s fo=_):=yz (lz (FF k1));go_wp2_with fail;rw[yx HV];exact bodyPost_ret (v:=.agg #[J Z 0,J Z 0,J Z 0]) (by simp[results,Tryz.results111,go_sem,r0,r1,r2]) rfl ⟨rfl,((B1.setCell lob _).setCell lob _).setCell lob _⟩
 have a0:=gL (A1);have d0:=eP (D1);go_wp2_with fail;refine(bp fo 1 40 _).mono ?_;rintro e W2 ⟨rfl,hw⟩;rw[hw];clear hw W2;rw[isD,show decide (1≤fo∧fo≤40)=mJ fo from rfl];cases k2:mJ fo
 case false=>
  obtain⟨r0,r1,r2⟩:=eP (R1);have g0:=tB (R1);have HV:Hid (spV su sx sy wd ht s fo=_):=yz (lz (FG k2));go_wp2_with fail;rw[yx HV];exact bodyPost_ret (v:=.agg #[J Z 0,J Z 0,J Z 0]) (by simp[results,Tryz.results111,go_sem,r0,r1,r2]) rfl ⟨rfl,((B1.setCell lob _).setCell lob _).setCell lob _⟩
 go_wp2_with fail;refine(bp su 1 10000 _).mono ?_;rintro e W2 ⟨rfl,hw⟩;rw[hw];clear hw W2;rw[isD];by_cases k3:1≤su∧su≤10000
 case neg=>
  rw[decide_eq_false k3];obtain⟨r0,r1,r2⟩:=eP (R1);have g0:=tB (R1);have HV:Hid (spV su sx sy wd ht s fo=_):=yz (lz (wN (gu (by omega))));go_wp2_with fail;rw[yx HV];exact bodyPost_ret (v:=.agg #[J Z 0,J Z 0,J Z 0]) (by simp[results,Tryz.results111,go_sem,r0,r1,r2]) rfl ⟨rfl,((B1.setCell lob _).setCell lob _).setCell lob _⟩
 rw[decide_eq_true k3];obtain⟨s1,s2⟩:=k3;go_wp2_with fail;refine(bp sx 0 (15*su) _).mono ?_;rintro e W2 ⟨rfl,hw⟩;rw[hw];clear hw W2;rw[isD];by_cases k4:0≤sx∧sx≤15*su
 case neg=>
  rw[decide_eq_false k4];obtain⟨r0,r1,r2⟩:=eP (R1);have g0:=tB (R1);have HV:Hid (spV su sx sy wd ht s fo=_):=yz (lz (wN (gu (by omega))));go_wp2_with fail;rw[yx HV];exact bodyPost_ret (v:=.agg #[J Z 0,J Z 0,J Z 0]) (by simp[results,Tryz.results111,go_sem,r0,r1,r2]) rfl ⟨rfl,((B1.setCell lob _).setCell lob _).setCell lob _⟩
 rw[decide_eq_true k4];go_wp2_with fail;refine(bp sy 0 (11*su) _).mono ?_;rintro e W2 ⟨rfl,hw⟩;rw[hw];clear hw W2;rw[isD];by_cases k5:0≤sy∧sy≤11*su
 case neg=>
  rw[decide_eq_false k5];obtain⟨r0,r1,r2⟩:=eP (R1);have g0:=tB (R1);have HV:Hid (spV su sx sy wd ht s fo=_):=yz (lz (wN (gu (by omega))));go_wp2_with fail;rw[yx HV];exact bodyPost_ret (v:=.agg #[J Z 0,J Z 0,J Z 0]) (by simp[results,Tryz.results111,go_sem,r0,r1,r2]) rfl ⟨rfl,((B1.setCell lob _).setCell lob _).setCell lob _⟩
 rw[decide_eq_true k5];have hok:jg su sx sy wd ht s fo=true:=FH (decide_eq_true ⟨s1,s2,k4.1,k4.2,k5.1,k5.2⟩) k1 k2;have cL:=yz (fun W=>yl ar su sx sy ed wd ht s fo W hok);have cP:=yz (fun W=>ku _ _ _ W (yX hok));have HV:=yz (Cn hok);unfold prI at HV;simp only[if_true]at HV;clear hok k1 k2 k4 k5 s1 s2;generalize wrap64 ((spX sx wd su).tdiv (gI (spX sx wd su) (spX sy ht su) (spZ fo su)))=px at *;generalize wrap64 ((spX sy ht su).tdiv (gI (spX sx wd su) (spX sy ht su) (spZ fo su)))=py at *;generalize wrap64 ((spZ fo su).tdiv (gI (spX sx wd su) (spX sy ht su) (spZ fo su)))=pz at *;generalize spX sx wd su=vx at *;generalize spX sy ht su=vy at *;generalize spZ fo su=vz at *;go_wp2_with fail;refine(yx cL _).mono ?_;rintro e W2 ⟨rfl,hx⟩;have A2:=A1.kept hx;have D2:=D1.kept hx;have R2:=R1.kept hx;have B2:=aj B1 hx;clear hx A1 D1 R1 B1;clear a0 d0;go_wp2_with fail;refine(yx cP _).mono ?_;rintro e W3 ⟨rfl,hx⟩;have A3:=A2.kept hx;have D3:=D2.kept hx;have R3:=R2.kept hx;have B3:=aj B2 hx;clear hx A2 D2 R2 B2;obtain⟨r0,r1,r2⟩:=eP (R3);have g0:=tB (R3);go_wp2_with fail;rw[yx HV];exact bodyPost_ret (v:=.agg #[J Z px,J Z py,J Z pz]) (by simp[results,Tryz.results111,go_sem,r0,r1,r2]) rfl ⟨rfl,((B3.setCell lob _).setCell lob _).setCell lob _⟩
theorem AH(ar su sx sy:Int)(ed:Bool)(wd ht:Int)(s:ByteArray)(fo:Int)(w:World):
  Calls Tryz.prog 155 #[.agg #[J Z ar,J Z su,J Z sx,J Z sy,.bool ed],.agg #[J Z wd,J Z ht,.string s],J Z fo] w fun e w'=>e=.returned (spV su sx sy wd ht s fo)∧Below w.heap.size w w':=by
 have A0:=((ap w [J Z ar,J Z su,J Z sx,J Z sy,.bool ed] 163).alloc (.cells #[J Z wd,J Z ht,.string s] 43)).alloc (.cells #[J Z 0,J Z 0,J Z 0] 111);have D0:=(ap (w.alloc (.cells #[J Z ar,J Z su,J Z sx,J Z sy,.bool ed] 163)) [J Z wd,J Z ht,.string s] 43).alloc (.cells #[J Z 0,J Z 0,J Z 0] 111);have R0:=ap ((w.alloc (.cells #[J Z ar,J Z su,J Z sx,J Z sy,.bool ed] 163)).alloc (.cells #[J Z wd,J Z ht,.string s] 43)) [J Z 0,J Z 0,J Z 0] 111;have B0:=bq w (.cells #[J Z ar,J Z su,J Z sx,J Z sy,.bool ed] 163) (.cells #[J Z wd,J Z ht,.string s] 43) (.cells #[J Z 0,J Z 0,J Z 0] 111);have e1:(w.alloc (.cells #[J Z ar,J Z su,J Z sx,J Z sy,.bool ed] 163)).heap.size=w.heap.size+1:=by simp
 have e2:((w.alloc (.cells #[J Z ar,J Z su,J Z sx,J Z sy,.bool ed] 163)).alloc (.cells #[J Z wd,J Z ht,.string s] 43)).heap.size=w.heap.size+1+1:=by simp
 rw[e1]at D0;rw[e2]at R0;clear e1 e2;go_enter Tryz.func155,Tryz.ntmps155;go_wp2_with fail;generalize ((w.alloc (.cells #[J Z ar,J Z su,J Z sx,J Z sy,.bool ed] 163)).alloc (.cells #[J Z wd,J Z ht,.string s] 43)).alloc (.cells #[J Z 0,J Z 0,J Z 0] 111)=W0 at A0 D0 R0 B0 ⊢;obtain⟨ob,hob⟩:∃ob,ob=w.heap.size+1+1:=⟨_,rfl⟩
 obtain⟨db,hdb⟩:∃db,db=w.heap.size+1:=⟨_,rfl⟩
 obtain⟨fb,hfb⟩:∃fb,fb=w.heap.size:=⟨_,rfl⟩
 rw[←hob]at R0 ⊢;rw[←hdb]at D0 ⊢;rw[←hfb]at A0 ⊢;have lob:w.heap.size≤ob:=by omega
 clear hob hdb hfb;refine(tL ar su sx sy ed _).mono ?_;rintro e W1 ⟨rfl,hx⟩;have A1:=A0.kept hx;have D1:=D0.kept hx;have R1:=R0.kept hx;have B1:=aj B0 hx;clear hx A0 D0 R0 B0;cases k1:kF su sx sy
 case false=>
  obtain⟨r0,r1,r2⟩:=eP (R1);have g0:=tB (R1);have HV:Hid (spV su sx sy wd ht s fo=_):=yz (lz (wN k1));go_wp2_with fail;rw[yx HV];exact bodyPost_ret (v:=.agg #[J Z 0,J Z 0,J Z 0]) (by simp[results,Tryz.results155,go_sem,r0,r1,r2]) rfl ⟨rfl,((B1.setCell lob _).setCell lob _).setCell lob _⟩
 have a0:=gL (A1);have d0:=eP (D1);go_wp2_with fail;refine(iP wd ht s _).mono ?_;rintro e W2 ⟨rfl,hx⟩;have A2:=A1.kept hx;have D2:=D1.kept hx;have R2:=R1.kept hx;have B2:=aj B1 hx;clear hx A1 D1 R1 B1;clear a0 d0;cases k2:di wd ht s
 case false=>
  obtain⟨r0,r1,r2⟩:=eP (R2);have g0:=tB (R2);have HV:Hid (spV su sx sy wd ht s fo=_):=yz (lz (FF k2));go_wp2_with fail;rw[yx HV];exact bodyPost_ret (v:=.agg #[J Z 0,J Z 0,J Z 0]) (by simp[results,Tryz.results155,go_sem,r0,r1,r2]) rfl ⟨rfl,((B2.setCell lob _).setCell lob _).setCell lob _⟩
 go_wp2_with fail;refine(pH fo _).mono ?_;rintro e W3 ⟨rfl,hw⟩;rw[hw];clear hw W3;cases k3:mJ fo
 case false=>
  obtain⟨r0,r1,r2⟩:=eP (R2);have g0:=tB (R2);have HV:Hid (spV su sx sy wd ht s fo=_):=yz (lz (FG k3));go_wp2_with fail;rw[yx HV];exact bodyPost_ret (v:=.agg #[J Z 0,J Z 0,J Z 0]) (by simp[results,Tryz.results155,go_sem,r0,r1,r2]) rfl ⟨rfl,((B2.setCell lob _).setCell lob _).setCell lob _⟩
 have a0:=gL (A2);have d0:=eP (D2);have hok:jg su sx sy wd ht s fo=true:=FH k1 k2 k3;obtain⟨⟨a1',a2',a3',a4',a5',a6'⟩,⟨b1',b2',b3',b4'⟩,⟨c1',c2'⟩,⟨d1',d2'⟩,⟨e1',e2'⟩,⟨f1',f2'⟩⟩:=oY hok;have m1:wrap64 ((wd-1)*su)=(wd-1)*su:=aq (by omega) (by omega);have m2:wrap64 ((ht-1)*su)=(ht-1)*su:=aq (by omega) (by omega);have m3:wrap64 (2*fo*su)=2*fo*su:=aq (by omega) (by omega);have cP:=yz (fun W=>oR (spX sx wd su) (spX sy ht su) (spZ fo su) W);rw[yX hok]at cP;have HV:=yz (Cn hok);clear hok k1 k2 k3;generalize prI true (gI (spX sx wd su) (spX sy ht su) (spZ fo su)) (spX sx wd su)=px at *;generalize prI true (gI (spX sx wd su) (spX sy ht su) (spZ fo su)) (spX sy ht su)=py at *;generalize prI true (gI (spX sx wd su) (spX sy ht su) (spZ fo su)) (spZ fo su)=pz at *;unfold spX spZ at cP;go_wp2_with fail;refine(yx cP _).mono ?_;rintro e W3 ⟨rfl,hx⟩;have A3:=A2.kept hx;have D3:=D2.kept hx;have R3:=R2.kept hx;have B3:=aj B2 hx;clear hx A2 D2 R2 B2;clear a0 d0;obtain⟨r0,r1,r2⟩:=eP (R3);have g0:=tB (R3);go_wp2_with fail;rw[yx HV];exact bodyPost_ret (v:=.agg #[J Z px,J Z py,J Z pz]) (by simp[results,Tryz.results155,go_sem,r0,r1,r2]) rfl ⟨rfl,((B3.setCell lob _).setCell lob _).setCell lob _⟩
theorem Hw(L:List St)(ids:List Int)(i:Nat):(eY L ids i).1=ids.getD i 0:=by
 unfold eY;split
 ·rfl
 ·rename_i h
  have h0:ids.getD i 0=0:=by simpa using h
  rw[h0];rfl
variable {b:Nat} {w w':World}
theorem bP.below{n:Nat}{L:List St}{ids:List Int}(h:bP w b n L ids)(hB:Below w.heap.size w w'):bP w' b n L ids:=h.kept (row:=none) ⟨hB.os,hB.tape,hB.output,hB.size,fun k hk _=>hB.block k hk⟩ (by simp)
def qW(w:World)(b:Nat)(v0 v1 v2:Value):Prop:=w.cell? ⟨b,0,none⟩=some v0∧w.cell? ⟨b,1,none⟩=some v1∧w.cell? ⟨b,2,none⟩=some v2
theorem qW.kept{v0 v1 v2:Value}(h:qW w b v0 v1 v2)(hB:Below w.heap.size w w'):qW w' b v0 v1 v2:=⟨bA h.1 hB,bA h.2.1 hB,bA h.2.2 hB⟩
theorem Hq(L:List St)(ids:List Int)(m:Nat)(ar br:Option Addr)(nl cr dr b N:Nat)(w:World)(hm:m≤6)(hN:bP w b N L ids):
  Calls Tryz.prog 222 #[.agg #[.slice ar nl cr,.slice br m dr,.map (some b)]] w fun e w'=>e=.returned (.slice (some ⟨w.heap.size+1,0,none⟩) m m)∧bI w' 2 (w.heap.size+1) (m*1) (sh ids)∧Below w.heap.size w w':=by
 have B0:=ak w (.cells #[.slice ar nl cr,.slice br m dr,.map (some b)] 296);have C0:qW (w.alloc (.cells #[.slice ar nl cr,.slice br m dr,.map (some b)] 296)) w.heap.size (.slice ar nl cr) (.slice br m dr) (.map (some b)):=by refine⟨?_,?_,?_⟩<;>simp
 have HN:=yz (hN.below B0);have HC:=yz C0;have HB:=yz B0;have hsz:(w.alloc (.cells #[.slice ar nl cr,.slice br m dr,.map (some b)] 296)).heap.size=w.heap.size+1:=by simp
 clear B0 C0 hN;obtain⟨i0,hi,hz0,hz1,hz2⟩:=info_parts lg;go_enter Tryz.func222,Tryz.ntmps222;go_wp2_with (at_make;refine wpList_make_full _ rfl _ _ 188 rfl (w.heap.size+1) 2 i0 (J Z 0) 1 Tryz.underlying188 hi hz0 hz1 .i64 .i64 _ _ m rfl rfl rfl rfl (by rw[hz2];omega) (by unfold maxLen;omega) (by simp) ?_;intro w0 hown0 hgrow0)
 have hzero:∀j,j<m*1→(madeCells (Value.int .i64 0).cells (m*1)).toList[j]? = some (J Z 0):=by
  intro j hj;have e:(Value.int .i64 0).cells = #[J Z 0]:=rfl;rw[e,toList_madeCells_one];simp at hj;simp[hj]
 have H0:Hid (bI w0 2 (w.heap.size+1) (m*1) (fun j=>if j<0 then sh ids j else J Z 0)):=yz (by
  have h:=bI.made (v:=.nilIface) hown0 hzero;rw[hsz]at h
  exact h.congr (fun j hj=>by rw[if_neg (by omega)]))
 have hb0:=ke hgrow0;have HB0:=aA HB hb0;have HN0:=yz ((yx HN).below hb0);have HC0:=an HC hb0;clear hown0 hgrow0 hzero hb0 HB HN HC hsz;go_loopw [11] (fun i wr=>∃k:Nat,k≤m∧i=J Z k∧Hid (bI wr 2 (w.heap.size+1) (m*1) (fun j=>if j<k then sh ids j else J Z 0))∧Hid (Below w.heap.size w wr)∧Hid (bP wr b N L ids)∧Hid (qW wr w.heap.size (.slice ar nl cr) (.slice br m dr) (.map (some b)))) (fun i _=>m-(intOf i).toNat)
 case atStart=>exact⟨0,by omega,rfl,H0,HB0,HN0,HC0⟩
 case round=>
  clear H0 HB0 HN0 HC0;obtain⟨k,hk,rfl,HO,HB,HN,HC⟩:=hrel;by_cases hkn:k<m
  ·have hr:=(yx HN).look k (by omega);have HID:Hid (sh ids k=J Z (eY L ids k).1):=yz (by rw[Hw];rfl);generalize eY L ids k=q at *;obtain⟨q1,q2,q3,q4⟩:=q;unfold stV at hr;dsimp only at hr HID;have hkn2:(k:Int)<(m:Int):=by omega
   have hfld:∀W:World,(Instr.field 113 (.agg #[J Z q1,J Z q2,J Z q3,J Z q4]) 0).run Tryz.prog W=.ok (J Z q1) W:=fun W=>by kernel_rfl
   have e0:=(yx HO).cell (j:=k) (by omega);have f0:=(yx HO).free k;rw[if_neg (by omega)]at e0
   have hbN:b≠w.heap.size+1:=fun e=>by
    obtain⟨D,⟨es,cl,hh,_⟩,_⟩:=yx HN;obtain⟨cur,hc,_⟩:=yx HO;rw[e,hc]at hh;cases hh
   have HO3:Hid (bI (wr.setCell ⟨w.heap.size+1,k,none⟩ (J Z q1)) 2 (w.heap.size+1) (m*1) (fun j=>if j<k+1 then sh ids j else J Z 0)):=yz (((yx HO).set k (J Z q1)).congr (fun j hj=>by
    by_cases h:j=k
    ·rw[if_pos h,if_pos (by omega),h,yx HID]
    ·rw[if_neg h];by_cases h2:j<k
     ·rw[if_pos h2,if_pos (by omega)]
     ·rw[if_neg h2,if_neg (by omega)]))
   have HB3:=yz ((yx HB).setCell (show w.heap.size≤w.heap.size+1 by omega) (J Z q1):Below w.heap.size w (wr.setCell ⟨w.heap.size+1,k,none⟩ (J Z q1)));have HN3:Hid (bP (wr.setCell ⟨w.heap.size+1,k,none⟩ (J Z q1)) b N L ids):=yz ((yx HN).kept (row:=some (w.heap.size+1)) (dv (gP wr _) k (J Z q1)) (fun e=>hbN (Option.some.inj e)));obtain⟨c0,c1,c2⟩:=yx HC
   have HC3:Hid (qW (wr.setCell ⟨w.heap.size+1,k,none⟩ (J Z q1)) w.heap.size (.slice ar nl cr) (.slice br m dr) (.map (some b))):=yz (by
    have hne:some w.heap.size≠some (w.heap.size+1):=fun e=>by have:=Option.some.inj e;omega
    exact⟨eK c0 (dv (gP wr _) k (J Z q1)) hne,eK c1 (dv (gP wr _) k (J Z q1)) hne,eK c2 (dv (gP wr _) k (J Z q1)) hne⟩)
   clear HO HB HN HC hbN;go_wp2_with fail;go_roundw
   case rel=>first | exact⟨k+1,by omega,by go_num,HO3,HB3,HN3,HC3⟩ | trace_state
   case measure=>simp[intOf];omega
  ·have hkn':k=m:=by omega
   subst hkn';go_wp2_with fail;go_ret;exact⟨rfl,(yx HO).congr (fun j hj=>if_pos (by omega)),yx HB⟩
end
section
open Go.Value renaming int → J
open Go.IntKind renaming i64 → Y
open Go.RowKit Go.Sort
theorem CB(L:List St)(S:List D3)(ids:List Int)(n:Nat)(ar br:Option Addr)(nl cr dr b N:Nat)(w:World)(hm:S.length≤6)(hn:n≤S.length)(hD:bi w br S S.length)(hN:bP w b N L ids):
  Calls Tryz.prog 223 #[.agg #[.slice ar nl cr,.slice br S.length dr,.map (some b)],J Y (n:Int)] w fun e w'=>(∃v,e=.returned v∧w'.ownsRow (w.heap.size+1) 299 7 v (au L S ids n).length (dp (au L S ids n)))∧Below w.heap.size w w':=by
 obtain⟨i0,hinf,hz0,hz1,hz2⟩:=info_parts rQ;have hm8:1000≤maxLen:=by decide +kernel
 have B0:=ak w (.cells #[.slice ar nl cr,.slice br S.length dr,.map (some b)] 296);have C0:qW (w.alloc (.cells #[.slice ar nl cr,.slice br S.length dr,.map (some b)] 296)) w.heap.size (.slice ar nl cr) (.slice br S.length dr) (.map (some b)):=by refine⟨?_,?_,?_⟩<;>simp
 have HSn:=yz (gr L S ids);have HLE:=yz (iX L S ids);have HSO:Hid (∀i,bY L S ids i=(vA S i,(ids.getD i 0,atV L L.length (ids.getD i 0)))):=yz (fun i=>rfl);have HNS:Hid (∀i,ids.getD i 0≠0→eY L ids i=(ids.getD i 0,atV L L.length (ids.getD i 0))):=yz (fun i h=>by unfold eY;rw[if_pos h]);have HNZ:Hid (∀i,ids.getD i 0=0→eY L ids i=(0,0,0,0)):=yz (fun i h=>by unfold eY;rw[if_neg (by simpa using h)];rfl);have HD:=yz (hD.kept B0);have HN0:=yz (hN.below B0);have HC0:=yz C0;have HB0:=yz B0;have hsz:(w.alloc (.cells #[.slice ar nl cr,.slice br S.length dr,.map (some b)] 296)).heap.size=w.heap.size+1:=by simp
 clear B0 C0 hD hN;generalize hme:S.length=m at *;go_enter Tryz.func223,Tryz.ntmps223;go_wp2_with fail;generalize hW:w.alloc (.cells #[.slice ar nl cr,.slice br m dr,.map (some b)] 296)=W at *;clear hW;go_loopw [5,10] (fun v kk wr=>∃i:Nat,i≤n∧kk=J Y i∧Hid (wr.ownsRow (w.heap.size+1) 299 7 v (au L S ids i).length (dp (au L S ids i)))∧Hid (Below W.heap.size W wr)) (fun _ kk _=>n-(intOf kk).toNat)
 case atStart=>exact⟨0,by omega,rfl,yz (World.ownsRow_nil _ _ _ _),yz (Below.refl _ _)⟩
 case round=>
  obtain⟨i,hi,rfl,HO,HB⟩:=hrel;by_cases hin:i<n
  ·have hin2:(i:Int)<(n:Int):=by omega
   have hr:=((yx HN0).below (yx HB)).lookOk i (by omega);obtain⟨c0,c1,c2⟩:=(yx HC0).kept (yx HB);have HSN:=yz (yx HSn i);have HSI:=yz (yx HSO i);have hns:=yx HNS i;have hnz:=yx HNZ i;have hle:=yx HLE i;generalize ids.getD i 0=id at *;by_cases hid:id=0
   ·subst hid;rw[hnz rfl]at hr;unfold stV at hr;simp only[ne_eq,not_true_eq_false,decide_false]at hr;rw[if_neg (by simp),List.append_nil]at HSN;have Z:=ak wr (.cells #[J Y 0,J Y 0,J Y 0,J Y 0] 113);have HO3:Hid ((wr.alloc (.cells #[J Y 0,J Y 0,J Y 0,J Y 0] 113)).ownsRow (w.heap.size+1) 299 7 u5 (au L S ids (i+1)).length (dp (au L S ids (i+1)))):=yz (by rw[yx HSN];exact jp (yx HO) Z);have HB3:=aA HB Z;clear Z HO HB hns hnz;go_wp2_with fail;go_roundw
    case rel=>first | exact⟨i+1,by omega,by go_num,HO3,HB3⟩ | trace_state
    case measure=>simp[intOf]<;>omega
   ·have hid':decide (id≠0)=true:=by simp[hid]
    rw[hns hid,hid']at hr;rw[if_pos hid,yx HSI]at HSN;clear HSI hns hnz;generalize atV L L.length id=q at *;obtain⟨q1,q2,q3⟩:=q;unfold stV at hr;dsimp only at hr;have HU:Hid (∀z,u5.ownBlock=some z→w.heap.size+1≤z∧z<wr.heap.size):=yz (fun z e=>(yx HO).lt z e);have Z:=ak wr (.cells #[J Y id,J Y q1,J Y q2,J Y q3] 113);have HO2:=yz (jp (yx HO) Z);have HB2:=aA HB Z;have N2:=yz (fu wr (id,q1,q2,q3) 113);clear Z HO HB;go_wp2_with fail;clear c0 c1 c2 hr;generalize wr.alloc (.cells #[J Y id,J Y q1,J Y q2,J Y q3] 113)=W2 at HO2 HB2 N2 ⊢;generalize wr.heap.size=tb at *;rcases yx HD with h | ⟨bb,bo,rfl,hbb,hbc⟩
    ·omega
    have hst:=(hbc i (by omega)).kept hbb (yx HB2);obtain⟨_,x1,_⟩:=(yx HC0).kept (yx HB2);clear hbc;generalize vA S i=sv at *;obtain⟨v1,v2,v3⟩:=sv;obtain⟨c0,c1,c2⟩:=hst;obtain⟨d0,d1,d2,d3⟩:=yx N2;simp only[Nat.zero_add]at d0 d1 d2 d3;simp only at c0 c1 c2;have him:(i:Int)<(m:Int):=by omega
    refine wp_region_held_drew (S:=(fun w'=>w'.cell? ⟨w.heap.size,1,none⟩=some (.slice (some ⟨bb,bo,none⟩) m dr)∧(w'.cell? ⟨bb,bo+i*3,none⟩=some (J Y v1)∧w'.cell? ⟨bb,bo+i*3+1,none⟩=some (J Y v2)∧w'.cell? ⟨bb,bo+i*3+2,none⟩=some (J Y v3))∧w'.cell? ⟨tb,0,none⟩=some (J Y id)∧w'.cell? ⟨tb,1,none⟩=some (J Y q1)∧w'.cell? ⟨tb,2,none⟩=some (J Y q2)∧w'.cell? ⟨tb,3,none⟩=some (J Y q3))) (by kernel_rfl) ?_ (fun hHeld=>?_)
    ·exact⟨x1,⟨c0,c1,c2⟩,d0,d1,d2,d3⟩
    refine ab 0 rfl ?_;try simp only[Act.put,ag,ah,ai]
    refine ab 1 rfl ?_;try simp only[Act.put,ag,ah,ai]
    refine ab 2 rfl ?_;try simp only[Act.put,ag,ah,ai]
    refine ab 3 rfl ?_;try simp only[Act.put,ag,ah,ai]
    refine ab 4 rfl ?_;try simp only[Act.put,ag,ah,ai]
    refine ab 5 rfl ?_;try simp only[Act.put,ag,ah,ai]
    refine ab 6 rfl ?_;try simp only[Act.put,ag,ah,ai]
    refine ab 7 rfl ?_;try simp only[Act.put,ag,ah,ai]
    have HK:Hid (∀W':World,Below W2.heap.size W2 W'→(W'.cell? ⟨w.heap.size,1,none⟩=some (.slice (some ⟨bb,bo,none⟩) m dr)∧(W'.cell? ⟨bb,bo+i*3,none⟩=some (J Y v1)∧W'.cell? ⟨bb,bo+i*3+1,none⟩=some (J Y v2)∧W'.cell? ⟨bb,bo+i*3+2,none⟩=some (J Y v3))∧W'.cell? ⟨tb,0,none⟩=some (J Y id)∧W'.cell? ⟨tb,1,none⟩=some (J Y q1)∧W'.cell? ⟨tb,2,none⟩=some (J Y q2)∧W'.cell? ⟨tb,3,none⟩=some (J Y q3))):=yz (fun W' h=>⟨bA x1 h,⟨bA c0 h,bA c1 h,bA c2 h⟩,bA d0 h,bA d1 h,bA d2 h,bA d3 h⟩);have HOd:Hid (W2.drew.ownsRow (w.heap.size+1) 299 7 u5 (au L S ids i).length (dp (au L S ids i))):=HO2;have HBd:=yz ((Below.refl W2.heap.size W2).drew);clear c0 c1 c2 d0 d1 d2 d3 x1 N2;refine ae 8 rfl fun K hK=>?_;go_simp;have Z5:=ak W2.drew (.cells #[J Y v1,J Y v2,J Y v3,J Y id,J Y q1,J Y q2,J Y q3] 299);have hown:=jp (yx HOd) Z5;have HB5:=aA HBd Z5;have hszd:W2.drew.heap.size=W2.heap.size:=rfl;have hbW:W.heap.size≤W2.heap.size:=(yx HB2).size;clear Z5 HOd HBd;refine hK.out _ _ (yx HK _ (yx HB5)) (fun hHeld3=>?_);clear hK K hHeld;refine ae 9 rfl fun K hK=>?_;refine oe rfl _ _ 278 rfl (w.heap.size+1) 299 i0 (.agg #[J Y 0,J Y 0,J Y 0,J Y 0,J Y 0,J Y 0,J Y 0]) 7 56 Tryz.underlying278 hinf hz0 hz1 hz2 rfl (by decide) _ _ _ rfl hown ⟨W2.drew.heap.size,0,none⟩ 1 1 (dp [((v1,v2,v3),(id,q1,q2,q3))]) rfl rfl ?d2 (fun u hu=>pA hu) ?d3 ?d4 ?d5 ?_
    case d2=>first | exact fun j u h=>h | exact jN _ _ _
    case d3=>omega
    case d4=>omega
    case d5=>first | omega | (simp;omega)
    intro v7 V7 hown7 hgrow7;have neb:∀z,z<w.heap.size+1∨tb≤z→some z≠u5.ownBlock:=fun z hz e=>by have:=yx HU z e.symm;omega
    have HB8:Hid (Below W.heap.size W V7):=yz ((aj (yx HB2) (yx HB5)).trans ⟨hgrow7.os,hgrow7.tape,hgrow7.output,hgrow7.size,fun z hz=>hgrow7.block z (by simp;omega) (neb z (.inl (by omega)))⟩);have HO8:Hid (V7.ownsRow (w.heap.size+1) 299 7 v7 (au L S ids (i+1)).length (dp (au L S ids (i+1)))):=yz (by rw[yx HSN,rt,List.length_append];exact hown7);obtain⟨k1,⟨k2,k3,k4⟩,k5,k6,k7,k8⟩:=yx HK _ (yx HB5);have hbb2:bb<w.heap.size+1:=by omega
    have k1':=cz k1 hgrow7 (neb _ (.inl (show w.heap.size<w.heap.size+1 by omega)));have k2':=cz k2 hgrow7 (neb _ (.inl hbb2));have k3':=cz k3 hgrow7 (neb _ (.inl hbb2));have k4':=cz k4 hgrow7 (neb _ (.inl hbb2));have k5':=cz k5 hgrow7 (neb _ (.inr (Nat.le_refl _)));have k6':=cz k6 hgrow7 (neb _ (.inr (Nat.le_refl _)));have k7':=cz k7 hgrow7 (neb _ (.inr (Nat.le_refl _)));have k8':=cz k8 hgrow7 (neb _ (.inr (Nat.le_refl _)));clear hown7 hgrow7 hown k1 k2 k3 k4 k5 k6 k7 k8 neb HB5 HB2 HO2;refine hK.out _ _ ⟨k1',⟨k2',k3',k4'⟩,k5',k6',k7',k8'⟩ (fun hHeld4=>?_);clear hK K hHeld3;refine ae 10 rfl fun K hK=>?_;go_simp;refine hK.out _ _ ⟨k1',⟨k2',k3',k4'⟩,k5',k6',k7',k8'⟩ (fun hHeld5=>?_);clear hK K hHeld4;refine wpAnyH_done (by kernel_rfl) ?_ _;clear k1' k2' k3' k4' k5' k6' k7' k8' hHeld5 HK;go_wp2_with fail;go_roundw
    case rel=>first | exact⟨i+1,by omega,by go_num,HO8,HB8⟩ | trace_state
    case measure=>simp[intOf]<;>omega
  ·have hin':i=n:=by omega
   subst hin';go_wp2_with fail;go_ret;exact⟨⟨_,rfl,yx HO⟩,aj (yx HB0) (yx HB)⟩
end
section
open Go.RowKit Go.Sort
theorem ur(ids:List Int){i:Nat}(hi:i<ids.length):aQ (ids.take (i+1))=aQ (ids.take i)+if ids.getD i 0≠0 then 1 else 0:=by
 rw[List.take_succ_eq_append_getElem hi,jF];have e:ids.getD i 0=ids[i]:=by rw[List.getD_eq_getElem?_getD,List.getElem?_eq_getElem hi];rfl
 rw[e]
theorem gz(ids:List Int)(a:Option Addr)(c:Nat)(w:World)(hk:ids.length≤1048576)(hI:ij w a ids ids.length):
  Calls Tryz.prog 182 #[.slice a ids.length c] w fun e w'=>e=.returned (.int .i64 (aQ ids:Int))∧w'=w:=by
 have HT:Hid (aQ (ids.take ids.length)=aQ ids):=yz (by rw[List.take_length]);rcases hI with h0 | ⟨b,o,rfl,hb,hc⟩
 ·have e:ids=[]:=List.eq_nil_of_length_eq_zero h0;subst e;go_enter Tryz.func182,Tryz.ntmps182;go_wp2_with fail;refine wp_loop_rounds 1 ?_;rw[rounds_succ];go_wp2_with fail;go_ret;exact⟨rfl,rfl⟩
 have HC:=yz hc;clear hc;go_enter Tryz.func182,Tryz.ntmps182;go_wp2_with fail;go_loop [3,8] (fun q i=>∃k:Nat,k≤ids.length∧i=.int .i64 k∧q=.int .i64 (aQ (ids.take k):Int)) (fun _ i=>ids.length-(intOf i).toNat)
 case atStart=>exact⟨0,Nat.zero_le _,rfl,rfl⟩
 case round=>
  obtain⟨k,hkl,rfl,rfl⟩:=hrel;by_cases hkn:k<ids.length
  ·have c0:=yx HC k hkn;have HS:=yz (ur ids hkn);have hle:=lK (ids.take k);rw[List.length_take]at hle;have hle2:(aQ (ids.take k):Int)≤1048576:=by omega
   have hkn2:(k:Int)<(ids.length:Int):=by omega
   generalize ids.getD k 0=z at *;by_cases hz:z=0
   ·have HS2:Hid (aQ (ids.take (k+1))=aQ (ids.take k)):=yz (by rw[yx HS,if_neg (by simpa using hz)];rfl);subst hz;go_wp2_with fail;go_round
    case rel=>exact⟨k+1,by omega,by go_num,by rw[yx HS2]⟩
    case measure=>simp[intOf];omega
   ·have HS2:Hid (aQ (ids.take (k+1))=aQ (ids.take k)+1):=yz (by rw[yx HS,if_pos hz]);go_wp2_with fail;go_round
    case rel=>exact⟨k+1,by omega,by go_num,by rw[yx HS2];go_num⟩
    case measure=>simp[intOf];omega
  ·obtain rfl:k=ids.length:=by omega
   go_wp2_with fail;go_ret;exact⟨rfl,rfl⟩
def dJ(L:List St)(S:List D3):List Int×Nat:=(fH (dB L S) (L.map (·.1)) S.length []).foldl dz ([],0)
theorem mN(L:List St)(S:List D3):cx L S=(if (dJ L S).2=1 then (dJ L S).1 else [])∧fi L S=(if (dJ L S).2=1 then (aQ (dJ L S).1:Int) else 0)∧bU L S=(if (dJ L S).2=0 then 6 else if 1<(dJ L S).2 then 11 else 0):=by
 have h:=DQ (dB L S) (L.map (·.1)) S.length;unfold cx fi bU;change ul (idR L S) (dJ L S) at h;rcases h with ⟨h1,h2,h3⟩ | ⟨h1,h2,h3,h4,h5⟩
 ·rw[h1,h3];exact⟨rfl,rfl,rfl⟩
 ·rw[h4];refine⟨?_,?_,rfl⟩
  ·split
   ·rename_i e;exact h5 e
   ·rfl
  ·split
   ·rw[h3]
   ·rfl
end
section
open Go.RowKit Go.Sort Go.Shelf
attribute [local go_sem] Oper.semAt_some
abbrev Nam:=List Int×Nat
def Jx(x:Nam):Value:=.slice (some ⟨x.2,0,none⟩) x.1.length x.1.length
def Jw(x:Nam)(w:World):Prop:=bI w 2 x.2 (x.1.length*1) (sh x.1)
structure KpX (p q:Nat) (W W':World):Prop where
 size:W.heap.size≤W'.heap.size
 os:W'.os=W.os
 tape:W'.tape=W.tape
 output:W'.output=W.output
 same:∀k o,W.heap[k]? = some o→(o.isCells=true∨o.isWalk=true)→k≠p→k≠q→W'.heap[k]? = some o
variable {p q:Nat}
theorem KpX.trans{A B C:World}(h:KpX p q A B)(k:KpX p q B C):KpX p q A C:=⟨Nat.le_trans h.size k.size,k.os.trans h.os,k.tape.trans h.tape,k.output.trans h.output,fun i o hi ho h1 h2=>k.same i o (h.same i o hi ho h1 h2) ho h1 h2⟩
theorem KpX.of_below{A B:World}(h:Below A.heap.size A B):KpX p q A B:=⟨h.size,h.os,h.tape,h.output,fun i o hi _ _ _=>by rw[h.block i (Array.getElem?_eq_some_iff.1 hi).1];exact hi⟩
def qA(l p q:Nat)(J:List (List Int)→World→Prop):Prop:=∀m pre (x:Nam) W,J pre W→(∃W0,J pre W0∧W0.heap.size≤x.2)→Jw x W→x.1.length≤6→YieldAt Fence.wide m Tryz.prog l #[Jx x] W fun e W'=>e=.returned (.bool true)∧J (pre ++ [x.1]) W'∧KpX p q W W'
theorem CY(L:List St)(S:List D3)(ids:List Int)(ar br:Option Addr)(cr dr b N l p q n:Nat)(J:List (List Int)→World→Prop)(pre:List (List Int))(w:World)(hm:S.length≤6)(hl:ids.length=S.length)(hN:bP w b N L ids)
  (hJ:J pre w) (hJa:∀W W',J pre W→Below W.heap.size W W'→J pre W') (hY:qA l p q J) :
  CallsIn Fence.wide n Tryz.prog 217 #[.agg #[.slice ar L.length cr,.slice br S.length dr,.map (some b)],.int .i64 (ids.length:Int),.func (.yield l) #[] #[]] w fun e W'=>e=.returned (.bool true)∧J (pre ++ [ids]) W'∧KpX p q w W':=by
 have B0:=ak w (.cells #[.slice ar L.length cr,.slice br S.length dr,.map (some b)] 296);have HB:=yz B0;have HJ:=yz (hJa _ _ hJ B0);have cI:=yz (fun (k:Nat)=>callsIn_wide (n:=k) |>.2 (Hq L ids S.length ar br L.length cr dr b N _ hm (hN.below B0)));have HY:=yz hY;have HJa:=yz hJa;clear B0 hN hJ hY hJa;rw[hl];refine callsIn_of_wp Tryz.func217 rfl trivial ?_ rfl;simp only[Tryz.ntmps217,List.size_toArray,List.length_cons,List.length_nil,Nat.reduceAdd,Nat.reduceSub,Array.replicate_succ,Array.replicate_zero,List.push_toArray,List.append_toArray,List.nil_append,List.cons_append];gi_wp2
 refine⟨trivial,fun h=>(by cases h),?_⟩;refine(yx cI _).mono ?_;rintro e w1 ⟨rfl,hrow,hx⟩;have hsz:(w.alloc (.cells #[.slice ar L.length cr,.slice br S.length dr,.map (some b)] 296)).heap.size=w.heap.size+1:=by simp
 rw[hsz]at hrow ⊢;have HY1:=yx HY (n-1) pre (ids,w.heap.size+1+1) w1 (yx HJa _ _ (yx HJ) hx) ⟨_,yx HJ,by simp⟩ (by unfold Jw;dsimp only;rw[hl];exact hrow) (by dsimp only;omega);unfold Jx at HY1;dsimp only at HY1;rw[hl]at HY1;have HK:=yz (KpX.of_below (p:=p) (q:=q) (aj (yx HB) hx));clear hrow hx hsz cI HY HJa HJ HB;obtain⟨fn,tmps,assign,body,hy,hR⟩:=HY1;gi_wp2
 refine⟨fun h=>(by cases h),?_⟩;refine hR.mono ?_;rintro e w2 ⟨rfl,hJ2,hk2⟩;have HJ2:=yz hJ2;have HK2:=yz ((yx HK).trans hk2);clear hJ2 hk2 hR hy HK;gi_wp2
 go_ret;exact⟨rfl,yx HJ2,yx HK2⟩
end
section
open Go.RowKit Go.Sort
theorem wo{i j:Nat}(h:i≠j):(Lit.int .i64 (i:Int))≠Lit.int .i64 (j:Int):=fun e=>h (by injection e with _ e;omega)
theorem ko(ids:List Int)(a:Int){i:Nat}(h:i<ids.length):(ids ++ [a]).getD i 0=ids.getD i 0:=by rw[List.getD_eq_getElem?_getD,List.getD_eq_getElem?_getD,List.getElem?_append_left h]
theorem nA(ids:List Int)(a:Int):(ids ++ [a]).getD ids.length 0=a:=by rw[List.getD_eq_getElem?_getD,List.getElem?_append_right (Nat.le_refl _),Nat.sub_self];rfl
theorem kn(ids:List Int)(a:Int){i:Nat}(h:ids.length<i):(ids ++ [a]).getD i 0=0:=by
 rw[List.getD_eq_getElem?_getD,List.getElem?_append_right (by omega),List.getElem?_eq_none (by simp;omega)];rfl
theorem le(ids:List Int){i:Nat}(h:ids.length≤i):ids.getD i 0=0:=by rw[List.getD_eq_getElem?_getD,List.getElem?_eq_none h];rfl
theorem rG(ids:List Int)(i:Nat):(ids ++ [(0:Int)]).getD i 0=ids.getD i 0:=by
 rcases Nat.lt_trichotomy i ids.length with h | h | h
 ·exact ko ids 0 h
 ·rw[h,nA,le ids (Nat.le_refl _)]
 ·rw[kn ids 0 h,le ids (by omega)]
variable {a:Int} {ids:List Int}
theorem mo.snoc0{D:DataW Unit}{L:List St}(h:mo D L ids):mo D L (ids ++ [0]):=fun i hi=>by
 have h1:=h i hi;unfold eY at h1 ⊢;rw[rG];exact h1
theorem mo.put{D:DataW Unit}{L:List St}(h:mo D L ids)(hm:Maps.IsMap D)(ha:a≠0):mo (D.put (.int .i64 (ids.length:Int)) (pV (a,atV L L.length a))) L (ids ++ [a]):=fun i hi=>by
 by_cases e:i=ids.length
 ·subst e;rw[Maps.has_put_same hm (by trivial),Maps.atKey_put_same hm (by trivial)];unfold eY;rw[nA,if_pos ha];exact⟨by simp[ha],rfl⟩
 ·rw[Maps.has_put_other (wo e),Maps.atKey_put_other (wo e)];have h1:=h i hi;unfold eY at h1 ⊢
  have e2:(ids ++ [a]).getD i 0=ids.getD i 0:=by
   rcases Nat.lt_or_gt_of_ne e with h2 | h2
   ·exact ko ids a h2
   ·rw[kn ids a h2,le ids (by omega)]
  rw[e2];exact h1
theorem mo.del{D:DataW Unit}{L:List St}(h:mo D L (ids ++ [a])):mo (D.del (.int .i64 (ids.length:Int))) L ids:=fun i hi=>by
 by_cases e:i=ids.length
 ·subst e;rw[Maps.has_del_same,Maps.atKey_del_same];unfold eY;rw[le ids (Nat.le_refl _),if_neg (by simp)];exact⟨by simp,rfl⟩
 ·rw[Maps.has_del_other (wo e),Maps.atKey_del_other (wo e)];have h1:=h i hi;unfold eY at h1 ⊢
  have e2:(ids ++ [a]).getD i 0=ids.getD i 0:=by
   rcases Nat.lt_or_gt_of_ne e with h2 | h2
   ·exact ko ids a h2
   ·rw[kn ids a h2,le ids (by omega)]
  rw[e2]at h1;exact h1
def iV(F:List Int→Int→Bool)(A:List Int)(r:Nat)(ids:List Int)(i:Nat):List (List Int):=((A.take i).filter (F ids)).flatMap (fun a=>fH F A r (ids ++ [a]))
theorem Aw(F:List Int→Int→Bool)(A:List Int)(r:Nat)(ids:List Int):iV F A r ids 0=[]:=rfl
theorem sn(F:List Int→Int→Bool)(A:List Int)(r:Nat)(ids:List Int){i:Nat}(hi:i<A.length):iV F A r ids (i+1)=iV F A r ids i ++ if F ids (A.getD i 0)=true then fH F A r (ids ++ [A.getD i 0]) else []:=by
 unfold iV;rw[List.take_succ_eq_append_getElem hi,List.filter_append,List.flatMap_append];have e:A.getD i 0=A[i]:=by rw[List.getD_eq_getElem?_getD,List.getElem?_eq_getElem hi];rfl
 rw[e];congr 1
 cases h:F ids A[i]<;>simp[h]
theorem CC(F:List Int→Int→Bool)(A:List Int)(r:Nat)(ids:List Int):fH F A (r+1) ids=iV F A r ids A.length ++ fH F A r (ids ++ [0]):=by
 unfold iV;rw[List.take_length];rfl
theorem EN(L:List St)(S:List D3)(ids:List Int)(a:Int):dB L S ids a=eQ (au L S ids ids.length) (vA S ids.length,(a,atV L L.length a)) (au L S ids ids.length).length:=vV L S ids _ ids.length
end
section
open Go.RowKit Go.Sort Go.Shelf
attribute [local go_sem] Oper.semAt_some
structure KpM (b p q:Nat) (W W':World):Prop where
 size:W.heap.size≤W'.heap.size
 os:W'.os=W.os
 tape:W'.tape=W.tape
 output:W'.output=W.output
 same:∀k o,W.heap[k]? = some o→(o.isCells=true∨o.isWalk=true)→k≠b→k≠p→k≠q→W'.heap[k]? = some o
variable {b p q:Nat} {a:Option Addr} {w w':World}
theorem KpM.trans{A B C:World}(h:KpM b p q A B)(k:KpM b p q B C):KpM b p q A C:=⟨Nat.le_trans h.size k.size,k.os.trans h.os,k.tape.trans h.tape,k.output.trans h.output,fun i o hi ho h0 h1 h2=>k.same i o (h.same i o hi ho h0 h1 h2) ho h0 h1 h2⟩
theorem KpX.toM{A B:World}(h:KpX p q A B):KpM b p q A B:=⟨h.size,h.os,h.tape,h.output,fun i o hi ho _ h1 h2=>h.same i o hi ho h1 h2⟩
theorem KpM.of_grown{A B:World}(h:A.grownBy B (some b)):KpM b p q A B:=⟨h.size,h.os,h.tape,h.output,fun i o hi _ h0 _ _=>by rw[h.block i (Array.getElem?_eq_some_iff.1 hi).1 (fun e=>h0 (Option.some.inj e))];exact hi⟩
theorem KpM.of_below{A B:World}(h:Below A.heap.size A B):KpM b p q A B:=KpM.of_grown (dl h)
theorem KpM.cell{A B:World}(h:KpM b p q A B){a:Addr}{v:Value}(hc:A.cell? a=some v)(h0:a.block≠b)(h1:a.block≠p)(h2:a.block≠q):B.cell? a=some v:=by
 obtain⟨o,ho,hi⟩:=cells_of_cell hc;have e:=h.same a.block o ho (.inl hi) h0 h1 h2;rw[←hc];exact World.cell?_of_block (e.trans ho.symm)
def kS(a:Option Addr)(b p q:Nat):Prop:=∀y,a=some y→y.block≠b∧y.block≠p∧y.block≠q
theorem Gx{L:List St}{n:Nat}(h:aH w a L n)(hg:KpM b p q w w')(hne:kS a b p q):aH w' a L n:=by
 rcases h with h | ⟨c,o,rfl,hb,hc⟩
 ·exact .inl h
 ·obtain⟨n0,n1,n2⟩:=hne _ rfl;refine .inr ⟨c,o,rfl,Nat.lt_of_lt_of_le hb hg.size,fun i hi=>?_⟩;obtain⟨c0,c1,c2,c3⟩:=hc i hi;exact⟨hg.cell c0 n0 n1 n2,hg.cell c1 n0 n1 n2,hg.cell c2 n0 n1 n2,hg.cell c3 n0 n1 n2⟩
theorem IL{L:List D3}{n:Nat}(h:bi w a L n)(hg:KpM b p q w w')(hne:kS a b p q):bi w' a L n:=by
 rcases h with h | ⟨c,o,rfl,hb,hc⟩
 ·exact .inl h
 ·obtain⟨n0,n1,n2⟩:=hne _ rfl;refine .inr ⟨c,o,rfl,Nat.lt_of_lt_of_le hb hg.size,fun i hi=>?_⟩;obtain⟨c0,c1,c2⟩:=hc i hi;exact⟨hg.cell c0 n0 n1 n2,hg.cell c1 n0 n1 n2,hg.cell c2 n0 n1 n2⟩
theorem Im{A:List Sg}{n:Nat}(h:fG w a A n)(hg:KpM b p q w w')(hne:kS a b p q):fG w' a A n:=by
 rcases h with h | ⟨c,o,rfl,hb,hc⟩
 ·exact .inl h
 ·obtain⟨n0,n1,n2⟩:=hne _ rfl;refine .inr ⟨c,o,rfl,Nat.lt_of_lt_of_le hb hg.size,fun i hi=>?_⟩;obtain⟨c0,c1,c2,c3,c4,c5,c6⟩:=hc i hi;exact⟨hg.cell c0 n0 n1 n2,hg.cell c1 n0 n1 n2,hg.cell c2 n0 n1 n2,hg.cell c3 n0 n1 n2,hg.cell c4 n0 n1 n2,hg.cell c5 n0 n1 n2,hg.cell c6 n0 n1 n2⟩
theorem bP.isMap{n:Nat}{L:List St}{ids:List Int}(h:bP w b n L ids):∃es c,w.heap[b]? = some (.map es c):=by
 obtain⟨D,⟨es,c,hh,_⟩,_⟩:=h;exact⟨es,c,hh⟩
def JAb(b:Nat)(J:List (List Int)→World→Prop):Prop:=∀pre W W',J pre W→(∃es c,W.heap[b]? = some (.map es c))→W.grownBy W' (some b)→J pre W'
def GR(L:List St)(S:List D3)(ar br:Option Addr)(cr dr b l p q:Nat)(J:List (List Int)→World→Prop)(r:Nat):Prop:=∀(ids:List Int) (pre:List (List Int)) (N n:Nat) (w:World),ids.length+r=S.length→N+13 ^ r≤100000000→bP w b N L ids→aH w ar L L.length→bi w br S S.length→p<w.heap.size→q<w.heap.size→J pre w →
  CallsIn Fence.wide n Tryz.prog 217 #[.agg #[.slice ar L.length cr,.slice br S.length dr,.map (some b)],.int .i64 (ids.length:Int),.func (.yield l) #[] #[]] w fun e W'=>e=.returned (.bool true)∧J (pre ++ fH (dB L S) (L.map (·.1)) r ids) W'∧bP W' b (N+(13 ^ r-1)) L ids∧KpM b p q w W'
theorem De(L:List St)(S:List D3)(ar br:Option Addr)(cr dr b l p q:Nat)(J:List (List Int)→World→Prop)(hm:S.length≤6)(hJ:JAb b J)(hY:qA l p q J)(hbp:b≠p)(hbq:b≠q):GR L S ar br cr dr b l p q J 0:=fun ids pre N n w hl hN13 hN hS hD hp hq hj=>by
 refine(CY L S ids ar br cr dr b N l p q n (fun pre' W=>J pre' W∧∃es c,W.heap[b]? = some (.map es c)) pre w hm (by omega) hN ⟨hj,hN.isMap⟩ (fun W W' h hB=>?_) (fun m pre' x W h1 hq0 h2 h3=>?_)).mono fun e W' h=>⟨h.1,h.2.1.1,?_,h.2.2.toM⟩
 ·obtain⟨es,c,hh⟩:=h.2;exact⟨hJ _ _ _ h.1 h.2 (dl hB),es,c,by rw[hB.block b (Array.getElem?_eq_some_iff.1 hh).1];exact hh⟩
 ·obtain⟨fn,tmps,assign,body,hy,hR⟩:=hY m pre' x W h1.1 (hq0.elim fun W0 h=>⟨W0,h.1.1,h.2⟩) h2 h3;refine⟨fn,tmps,assign,body,hy,hR.mono fun e W' h=>⟨h.1,⟨h.2.1,?_⟩,h.2.2⟩⟩;obtain⟨es,c,hh⟩:=h1.2;exact⟨es,c,h.2.2.same b _ hh (.inr rfl) hbp hbq⟩
 ·obtain⟨D,⟨es,c,hh,rest⟩,hM⟩:=hN;exact⟨D,(show W'.ownsMap Tryz.prog 3 sY b N D from ⟨es,c,h.2.2.same b _ hh (.inr rfl) hbp hbq,rest⟩).mono (by omega),hM⟩
attribute [local go_sem] Oper.semAt_some
theorem qW.keptM{b p q:Nat}{w w':World}{c:Nat}{v0 v1 v2:Value}(h:qW w c v0 v1 v2)(hg:KpM b p q w w')(n0:c≠b)(n1:c≠p)(n2:c≠q):qW w' c v0 v1 v2:=⟨hg.cell h.1 n0 n1 n2,hg.cell h.2.1 n0 n1 n2,hg.cell h.2.2 n0 n1 n2⟩
theorem CZ(L:List St)(S:List D3)(ar br:Option Addr)(cr dr b l p q r:Nat)(J:List (List Int)→World→Prop)(hk:bk L=true)(hm:S.length≤6)(hJ:JAb b J)(hbp:b≠p)(hbq:b≠q)(hA:kS ar b p q)(hB:kS br b p q)(ih:GR L S ar br cr dr b l p q J r):GR L S ar br cr dr b l p q J (r+1):=fun ids pre N n w hl hN13 hN hS hD hp hq hj=>by
 have hn12:L.length≤12:=(eu hk).1;have B0:=ak w (.cells #[.slice ar L.length cr,.slice br S.length dr,.map (some b)] 296);have C0:qW (w.alloc (.cells #[.slice ar L.length cr,.slice br S.length dr,.map (some b)] 296)) w.heap.size (.slice ar L.length cr) (.slice br S.length dr) (.map (some b)):=by refine⟨?_,?_,?_⟩<;>simp
 have hbl:b<w.heap.size:=by obtain⟨D,hD,_⟩:=hN;exact hD.lt
 have cA:=yz (fun (k:Nat)=>(callsIn_wide (n:=k)).2 (CB L S ids ids.length ar br L.length cr dr b N _ hm (by omega) (hD.kept B0) (hN.below B0)));have HN:=yz (hN.below B0);have HS:=yz (hS.kept B0);have HD:=yz (hD.kept B0);have HJ0:=yz (hJ _ _ _ hj hN.isMap (dl B0));have HC:=yz C0;have HB0:=yz B0;have HIH:=yz ih;have HJA:=yz hJ;have hne:¬(ids.length:Int)=(S.length:Int):=by omega
 have e16:((ids.length:Int)==(S.length:Int))=false:=by rw[beq_eq_false_iff_ne];exact hne
 have hsz:(w.alloc (.cells #[.slice ar L.length cr,.slice br S.length dr,.map (some b)] 296)).heap.size=w.heap.size+1:=by simp
 clear B0 C0 hN hS hD hj ih hJ;refine callsIn_of_wp Tryz.func217 rfl trivial ?_ rfl;simp only[Tryz.ntmps217,List.size_toArray,List.length_cons,List.length_nil,Nat.reduceAdd,Nat.reduceSub,Array.replicate_succ,Array.replicate_zero,List.push_toArray,List.append_toArray,List.nil_append,List.cons_append];gi_wp2
 refine⟨trivial,fun h=>(by cases h),?_⟩;generalize hW:w.alloc (.cells #[.slice ar L.length cr,.slice br S.length dr,.map (some b)] 296)=W at *;clear hW;refine(yx cA _).mono ?_;rintro e w1 ⟨⟨v,rfl,ho⟩,hx⟩;obtain⟨av,cv,rfl⟩:=ie ho;have HSi:=yz (na ho);have hcv:=BW ho (by decide);have hcm:=sl ho;have hm9:maxLen≤9223372036854775807:=by decide +kernel
 have hna:=iX L S ids ids.length
 have HAp:Hid (kS av b p q):=yz (fun y e=>by
  rcases ho.2 with ⟨h1,_⟩ | ⟨g,c',cur,e',hb',_⟩
  ·injection h1 with h1;rw[h1]at e;cases e
  ·injection e' with e1;rw[e1]at e;cases e;exact⟨by show g≠b;omega,by show g≠p;omega,by show g≠q;omega⟩)
 have N1:=yz ((yx HN).below hx);have S1:=an HS hx;have D1:=an HD hx;have J1:=yz (yx HJA _ _ _ (yx HJ0) (yx HN).isMap (dl hx));have C1:=an HC hx;have HK0:=yz (KpM.of_below (b:=b) (p:=p) (q:=q) (aj (yx HB0) hx));have hw1:w.heap.size+1≤w1.heap.size:=by have:=hx.size;omega
 have HFE:=yz (EN L S ids);generalize hsa:au L S ids ids.length=SA at *;clear ho hx HN HS HD HJ0 HC HB0 cA hsz hsa;obtain⟨c0,c1,c2⟩:=yx C1;gi_wp2
 clear c0 c1 c2;gi_loopw [27] (fun i wr=>∃k:Nat,k≤L.length∧i=.int .i64 k∧Hid (J (pre ++ iV (dB L S) (L.map (·.1)) r ids k) wr)∧Hid (bP wr b (N+k*13 ^ r) L ids)∧Hid (KpM b p q w1 wr)) (fun i _=>L.length-(intOf i).toNat)
 case atStart=>exact⟨0,Nat.zero_le _,rfl,yz (by rw[Aw,List.append_nil];exact yx J1),yz (by rw[Nat.zero_mul];exact yx N1),yz ⟨Nat.le_refl _,rfl,rfl,rfl,fun _ _ h _ _ _ _=>h⟩⟩
 case round=>
  clear J1 N1;obtain⟨k,hkl,rfl,HJr,HNr,HKr⟩:=hrel;have Sr:=yz (Gx (yx S1) (yx HKr) hA);have Dr:=yz (IL (yx D1) (yx HKr) hB);have Cr:=yz ((yx C1).keptM (yx HKr) (by omega) (by omega) (by omega));have Ar:=yz (Im (yx HSi) (yx HKr) (yx HAp));have hwr:w.heap.size+1≤wr.heap.size:=Nat.le_trans hw1 (yx HKr).size;obtain⟨c0,c1,c2⟩:=yx Cr;by_cases hkn:k<L.length
  ·obtain⟨⟨s1,s2,s3,s4⟩,hst⟩:∃z,stA L k=z:=⟨_,rfl⟩
   have hsm1:=td hk hkn;have hat:=zK hk hkn;have HMA:Hid ((L.map (·.1)).getD k 0=s1):=yz (by rw[Fl hkn,hst]);rw[hst]at hsm1 hat;have HAT:=yz hat;have HS1:=yz hsm1.2;have hkn2:(k:Int)<(L.length:Int):=by omega
   rcases yx Sr with h0 | ⟨sb,so,rfl,hsb,hcs⟩
   ·omega
   have hstar:=hcs k hkn;rw[hst]at hstar;obtain⟨d0,d1,d2,d3⟩:=hstar;clear hsm1 hat hst hcs;rcases yx Dr with h0 | ⟨db,do',rfl,hdb,hcd⟩
   ·omega
   obtain⟨⟨v1,v2,v3⟩,hv⟩:∃z,vA S ids.length=z:=⟨_,rfl⟩
   have hdir:=hcd ids.length (by omega);rw[hv]at hdir;have HV:=yz hv;obtain⟨g0,g1,g2⟩:=hdir;dsimp only at d0 d1 d2 d3 g0 g1 g2;clear hcd hv;have hpl:(ids.length:Int)<(S.length:Int):=by omega
   have Z2:=ak wr (.cells #[.int .i64 s1,.int .i64 s2,.int .i64 s3,.int .i64 s4] 113);have E2:=yz (fu wr (s1,s2,s3,s4) 113);have HB2:=yz Z2;have y1:=bA c1 Z2;have y2:=bA c2 Z2;have z0:=bA g0 Z2;have z1:=bA g1 Z2;have z2:=bA g2 Z2;clear Z2;gi_wp2
   clear c0 c1 c2 d0 d1 d2 d3 g0 g1 g2;generalize hW2:wr.alloc (.cells #[.int .i64 s1,.int .i64 s2,.int .i64 s3,.int .i64 s4] 113)=W2 at *;clear hW2;obtain⟨e0,e1,e2,e3⟩:=yx E2;simp only[Nat.zero_add]at e0 e1 e2 e3;have y1':=fun o=>bA y1 (ak W2 o);have z0':=fun o=>bA z0 (ak W2 o);have z1':=fun o=>bA z1 (ak W2 o);have z2':=fun o=>bA z2 (ak W2 o);have e0':=fun o=>bA e0 (ak W2 o);have e1':=fun o=>bA e1 (ak W2 o);have e2':=fun o=>bA e2 (ak W2 o);have e3':=fun o=>bA e3 (ak W2 o);gi_region
   have Z3:=(ak W2 (.cells #[.int .i64 v1,.int .i64 v2,.int .i64 v3,.int .i64 s1,.int .i64 s2,.int .i64 s3,.int .i64 s4] 299))
   have Y3:Below W2.heap.size W2 (W2.alloc (.cells #[.int .i64 v1,.int .i64 v2,.int .i64 v3,.int .i64 s1,.int .i64 s2,.int .i64 s3,.int .i64 s4] 299)).drew:=Z3.drew;have P3:Hid (qV (W2.alloc (.cells #[.int .i64 v1,.int .i64 v2,.int .i64 v3,.int .i64 s1,.int .i64 s2,.int .i64 s3,.int .i64 s4] 299)).drew W2.heap.size 0 ((v1,v2,v3),(s1,s2,s3,s4))):=yz (gD W2 ((v1,v2,v3),(s1,s2,s3,s4)) 299);have E3:=yz ((yx E2).kept (World.block_lt_of_cell? W2 _ e0) Y3);have HB3:=aA HB2 Y3;generalize hW3:(W2.alloc (.cells #[.int .i64 v1,.int .i64 v2,.int .i64 v3,.int .i64 s1,.int .i64 s2,.int .i64 s3,.int .i64 s4] 299)).drew=W3 at *;clear hW3 Z3 Y3 y1 y2 z0 z1 z2 e0 e1 e2 e3 y1' z0' z1' z2' e0' e1' e2' e3' E2 HB2;have J3:=yz (yx HJA _ _ _ (yx HJr) (yx HNr).isMap (dl (yx HB3)));have N3:=yz ((yx HNr).below (yx HB3));have K3:=yz ((yx HKr).trans (KpM.of_below (b:=b) (p:=p) (q:=q) (yx HB3)));have A3:=an Ar (yx HB3);have C3:=an Cr (yx HB3);have hw3:w.heap.size+1≤W3.heap.size:=Nat.le_trans hwr (yx HB3).size;generalize W2.heap.size=nb at *;obtain⟨n0,n1,n2,n3,n4,n5,n6⟩:=yx P3;simp only[Nat.zero_add]at n0 n1 n2 n3 n4 n5 n6;have cF:=yz (fun (j:Nat)=>(callsIn_wide (n:=j)).2 (lc SA SA.length ((v1,v2,v3),(s1,s2,s3,s4)) av cv W3 (by omega) hcv (by omega) (yx A3)));have HFV:Hid (eQ SA ((v1,v2,v3),(s1,s2,s3,s4)) SA.length=dB L S ids s1):=yz (by rw[yx HFE s1,yx HV,yx HAT]);rw[yx HFV]at cF;unfold sgV at cF;dsimp only at cF;gi_wp2
   refine⟨trivial,fun h=>(by cases h),?_⟩;refine(yx cF _).mono ?_;rintro e W4 ⟨rfl,hx⟩;have J4:=yz (yx HJA _ _ _ (yx J3) (yx N3).isMap (dl hx));have N4:=yz ((yx N3).below hx);have K4:=yz ((yx K3).trans (KpM.of_below (b:=b) (p:=p) (q:=q) hx));have C4:=an C3 hx;have E4:=yz ((yx E3).kept (World.block_lt_of_cell? W3 _ (yx E3).1) hx);have hw4:w.heap.size+1≤W4.heap.size:=Nat.le_trans hw3 hx.size;clear hx n0 n1 n2 n3 n4 n5 n6 J3 N3 K3 C3 E3 A3 cF P3 HJr HNr HKr Cr Ar Sr Dr HB3;cases hfit:dB L S ids s1
   ·have HR:Hid (iV (dB L S) (L.map (·.1)) r ids (k+1)=iV (dB L S) (L.map (·.1)) r ids k):=yz (by rw[sn _ _ _ _ (by rw[List.length_map];exact hkn),yx HMA,hfit];simp);have J5:Hid (J (pre ++ iV (dB L S) (L.map (·.1)) r ids (k+1)) W4):=yz (by rw[yx HR];exact yx J4);have N5:Hid (bP W4 b (N+(k+1)*13 ^ r) L ids):=yz (by obtain⟨D,h1,h2⟩:=yx N4;exact⟨D,h1.mono (Nat.add_le_add_left (Nat.mul_le_mul_right _ (Nat.le_succ k)) _),h2⟩);gi_wp2
    go_roundw
    case rel=>first | exact⟨k+1,by omega,by go_num,J5,N5,K4⟩ | trace_state
    case measure=>simp[intOf];omega
   ·have HR:Hid (iV (dB L S) (L.map (·.1)) r ids (k+1)=iV (dB L S) (L.map (·.1)) r ids k ++ fH (dB L S) (L.map (·.1)) r (ids ++ [s1])):=yz (by rw[sn _ _ _ _ (by rw[List.length_map];exact hkn),yx HMA,hfit];rfl);obtain⟨c0,c1,c2⟩:=yx C4;obtain⟨e0,e1,e2,e3⟩:=yx E4;simp only[Nat.zero_add]at e0 e1 e2 e3;obtain⟨D,hown,hM⟩:=yx N4
    have hNb:N+k*13 ^ r<maxLen:=by
     have h1:k*13 ^ r≤12*13 ^ r:=Nat.mul_le_mul_right _ (by omega);have h2:100000000≤maxLen:=by decide +kernel
     rw[Nat.pow_succ]at hN13;have h3:0<13 ^ r:=Nat.pow_pos (by decide);generalize 13 ^ r=c at *;generalize k*c=kc at *;omega
    gi_wp2_with (gi_at_mapUpdate;refine wpListIn_mapUpdate_own _ rfl _ _ _ 294 rfl 3 113 (Maps.int_keyed Tryz.underlying3) Tryz.underlying294 sY b (N+k*13 ^ r) D rfl hown hNb _ _ (.int .i64 (ids.length:Int)) rfl rfl (Hu ids.length (by omega)) (pV (s1,s2,s3,s4)) [] (sZ (s1,s2,s3,s4)) ?_;intro W5 hown5 hg5;have HU5:=yz hown5;have HG5:=yz hg5;clear hown5 hg5;have C5:=yz ((yx C4).keptM (KpM.of_grown (b:=b) (p:=p) (q:=q) (yx HG5)) (by omega) (by omega) (by omega));obtain⟨x0,x1,x2⟩:=yx C5)
    have J5:=yz (yx HJA _ _ _ (yx J4) (yx N4).isMap (yx HG5));have K5:=yz ((yx K4).trans (KpM.of_grown (b:=b) (p:=p) (q:=q) (yx HG5)))
    have N5:Hid (bP W5 b (N+k*13 ^ r+1) L (ids ++ [s1])):=yz ⟨_,yx HU5,by
     have h1:=hM.put (a:=s1) hown.isMap (yx HS1);rw[yx HAT]at h1
     exact h1⟩
    have S5:=yz (Gx (yx S1) (yx K5) hA);have D5:=yz (IL (yx D1) (yx K5) hB);have hw5:w.heap.size+1≤W5.heap.size:=Nat.le_trans hw4 (yx HG5).size;have HLN:Hid (((ids ++ [s1]).length:Int)=(ids.length:Int)+1):=yz (by simp)
    have cI:=yz (fun (j:Nat)=>yx HIH (ids ++ [s1]) (pre ++ iV (dB L S) (L.map (·.1)) r ids k) (N+k*13 ^ r+1) j W5 (by rw[List.length_append,List.length_singleton];omega) (by
     have h1:k*13 ^ r≤11*13 ^ r:=Nat.mul_le_mul_right _ (by omega);rw[Nat.pow_succ]at hN13;have h3:0<13 ^ r:=Nat.pow_pos (by decide);generalize 13 ^ r=c at *;generalize k*c=kc at *
     omega) (yx N5) (yx S5) (yx D5) (by omega) (by omega) (yx J5))
    rw[yx HLN]at cI;clear c0 c1 c2 e0 e1 e2 e3 J4 N4 K4 C4 E4 HU5 hown hM HG5 J5 N5 S5 D5;refine⟨trivial,fun h=>(by cases h),?_⟩;refine(yx cI _).mono ?_;rintro e W6 ⟨rfl,hJ6,hN6,hK6⟩;have J6:=yz hJ6;have K6:=yz ((yx K5).trans hK6);have C6:=yz ((yx C5).keptM hK6 (by omega) (by omega) (by omega));have N6:=yz hN6;have hw6:w.heap.size+1≤W6.heap.size:=Nat.le_trans hw5 hK6.size;clear x0 x1 x2 hJ6 hN6 hK6 K5 C5 cI;obtain⟨x0,x1,x2⟩:=yx C6;obtain⟨D6,hown6,hM6⟩:=yx N6;gi_wp2_with (gi_at_delete;refine wpListIn_delete_own _ rfl _ _ 294 3 rfl 113 (Maps.int_keyed Tryz.underlying3) Tryz.underlying294 sY b _ D6 rfl hown6 _ (.int .i64 (ids.length:Int)) rfl (Hu ids.length (by omega)) ?_;intro W7 hown7 ht7;have HU7:=yz hown7;have HG7:=yz ht7.grown;clear hown7 ht7)
    have J7:Hid (J (pre ++ iV (dB L S) (L.map (·.1)) r ids (k+1)) W7):=yz (by rw[yx HR,←List.append_assoc];exact yx HJA _ _ _ (yx J6) (yx N6).isMap (yx HG7));have K7:=yz ((yx K6).trans (KpM.of_grown (b:=b) (p:=p) (q:=q) (yx HG7)))
    have N7:Hid (bP W7 b (N+(k+1)*13 ^ r) L ids):=yz ⟨_,(yx HU7).mono (by
     have h3:0<13 ^ r:=Nat.pow_pos (by decide);rw[Nat.succ_mul];generalize 13 ^ r=c at *;generalize k*c=kc at *
     omega),hM6.del⟩
    clear x0 x1 x2 J6 K6 C6 N6 hown6 hM6 HU7 HG7;gi_wp2
    go_roundw
    case rel=>first | exact⟨k+1,by omega,by go_num,J7,N7,K7⟩ | exact⟨k+1,by omega,by go_num,J7,N7⟩ | trace_state
    case measure=>simp[intOf];omega
  ·obtain rfl:k=L.length:=by omega
   have HLN:Hid (((ids ++ [(0:Int)]).length:Int)=(ids.length:Int)+1):=yz (by simp);have N5:Hid (bP wr b (N+L.length*13 ^ r) L (ids ++ [0])):=yz (by obtain⟨D,h1,h2⟩:=yx HNr;exact⟨D,h1,h2.snoc0⟩)
   have cI:=yz (fun (j:Nat)=>yx HIH (ids ++ [0]) (pre ++ iV (dB L S) (L.map (·.1)) r ids L.length) (N+L.length*13 ^ r) j wr (by rw[List.length_append,List.length_singleton];omega) (by
    have h1:L.length*13 ^ r≤12*13 ^ r:=Nat.mul_le_mul_right _ hn12;rw[Nat.pow_succ]at hN13;generalize 13 ^ r=c at *;generalize L.length*c=kc at *
    omega) (yx N5) (yx Sr) (yx Dr) (by omega) (by omega) (yx HJr))
   rw[yx HLN]at cI;gi_wp2
   refine⟨trivial,fun h=>(by cases h),?_⟩;refine(yx cI _).mono ?_;rintro e W6 ⟨rfl,hJ6,hN6,hK6⟩;have J6:=yz hJ6;have N6:=yz hN6;have K6:=yz (((yx HK0).trans (yx HKr)).trans hK6);clear hJ6 hN6 hK6 cI N5 c0 c1 c2;gi_wp2
   go_ret;refine⟨rfl,?_,?_,yx K6⟩
   ·rw[CC,←List.append_assoc,List.length_map];exact yx J6
   ·obtain⟨D,h1,h2⟩:=yx N6;refine⟨D,h1.mono ?_,fun i hi=>?_⟩
    ·have h3:L.length*13 ^ r≤12*13 ^ r:=Nat.mul_le_mul_right _ hn12;have h4:0<13 ^ r:=Nat.pow_pos (by decide);rw[Nat.pow_succ];generalize 13 ^ r=c at *;generalize L.length*c=kc at *;omega
    ·have h5:=h2 i hi;unfold eY at h5 ⊢;rw[rG]at h5;exact h5
theorem yc(L:List St)(S:List D3)(ar br:Option Addr)(cr dr b l p q:Nat)(J:List (List Int)→World→Prop)(hk:bk L=true)(hm:S.length≤6)(hJ:JAb b J)(hY:qA l p q J)(hbp:b≠p)(hbq:b≠q)(hA:kS ar b p q)(hB:kS br b p q):∀r,GR L S ar br cr dr b l p q J r
 | 0=>De L S ar br cr dr b l p q J hm hJ hY hbp hbq
 | r+1=>CZ L S ar br cr dr b l p q r J hk hm hJ hbp hbq hA hB (yc L S ar br cr dr b l p q J hk hm hJ hY hbp hbq hA hB r)
attribute [local go_sem] Oper.semAt_some
theorem wE(w:World)(L:List St):bP (w.alloc (.map #[] 0)) w.heap.size 0 L []:=⟨.map [],World.ownsMap_made w _ _ _,fun i hi=>⟨by simp[Maps.has],by unfold eY;simp;rfl⟩⟩
theorem Hb(L:List St)(S:List D3)(ar br:Option Addr)(cr dr l p q s1 s2 n:Nat)(J:List (List Int)→World→Prop)(W:World)(hk:bk L=true)(hm:S.length≤6)(h1:W.cell? ⟨s1,0,none⟩=some (.slice ar L.length cr))(h2:W.cell? ⟨s2,0,none⟩=some (.slice br S.length dr))(hS:aH W ar L L.length)(hD:bi W br S S.length)(hA:∀y,ar=some y→y.block<W.heap.size∧y.block≠p∧y.block≠q)(hB:∀y,br=some y→y.block<W.heap.size∧y.block≠p∧y.block≠q)(hp:p<W.heap.size)(hq:q<W.heap.size)
  (hJ:∀b,W.heap.size≤b→JAb b J) (hJn:∀pre W1 W2,J pre W1→Below W1.heap.size W1 W2→J pre W2) (hY:qA l p q J) (h0:J [] W) :
  CallsIn Fence.wide n Tryz.prog 216 #[.func (.yield l) #[] #[],.pointer (some ⟨s1,0,none⟩),.pointer (some ⟨s2,0,none⟩)] W fun e W'=>(∃v,e=.returned v)∧J (fH (dB L S) (L.map (·.1)) S.length []) W':=by
 have hmm:=@run_makeMap Tryz.prog;refine callsIn_of_wp Tryz.func216 rfl trivial ?_ rfl;simp only[Tryz.ntmps216,List.size_toArray,List.length_cons,List.length_nil,Nat.reduceAdd,Nat.reduceSub,Array.replicate_succ,Array.replicate_zero,List.push_toArray,List.append_toArray,List.nil_append,List.cons_append];gi_wp2
 refine⟨trivial,fun h=>(by cases h),?_⟩;have B1:=aF W (.map #[] 0) (.cells #[.slice ar L.length cr,.slice br S.length dr,.map (some W.heap.size)] 296);have N1:=(wE W L).below (ak _ (.cells #[.slice ar L.length cr,.slice br S.length dr,.map (some W.heap.size)] 296));have hz:((W.alloc (.map #[] 0)).alloc (.cells #[.slice ar L.length cr,.slice br S.length dr,.map (some W.heap.size)] 296)).heap.size=W.heap.size+2:=by simp
 refine(yc L S ar br cr dr W.heap.size l p q J hk hm (hJ _ (Nat.le_refl _)) hY (by omega) (by omega) (fun y e=>⟨by have:=(hA y e).1;omega,(hA y e).2⟩) (fun y e=>⟨by have:=(hB y e).1;omega,(hB y e).2⟩) S.length [] [] 0 _ _ (by simp) (by have:13 ^ S.length≤13 ^ 6:=Nat.pow_le_pow_right (by decide) hm;omega) N1 (hS.kept B1) (hD.kept B1) (by omega) (by omega) (hJn _ _ _ h0 B1)).mono ?_;rintro e W2 ⟨rfl,hJ2,_,_⟩;have HJ2:=yz hJ2;clear hJ2 N1 B1;gi_wp2
 go_end0
 exact⟨⟨_,rfl⟩,by simpa using yx HJ2⟩
end
end Go.Proofs.YteoonaanoenjiaaGreatDoor
