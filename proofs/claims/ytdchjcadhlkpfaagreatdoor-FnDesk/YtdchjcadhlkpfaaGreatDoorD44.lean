/- Several texts in one: DnJ, DnA, DnB, DsV, DtM, DtA, DtB, DrX. -/
import Derived.Test.YtdchjcadhlkpfaaGreatDoorD43
namespace Go.Proofs.YtdchjcadhlkpfaaGreatDoor
set_option linter.unusedVariables false
set_option linter.unusedSimpArgs false
set_option maxRecDepth 100000
set_option maxHeartbeats 8000000
section
open Go.RowKit Go.Sort
def om(f:Nat→ByteArray):Nat→ByteArray
 | 0=>⟨#[]⟩
 | k+1=>om f k ++ f k
def vY(w:World)(a:Option Addr)(n:Nat)(f:Nat→ByteArray):Prop:=n=0∨∃g,a=some ⟨g,0,none⟩∧g<w.heap.size∧∀j,j<n→w.cell? ⟨g,j,none⟩=some (.string (f j))
theorem vY.kept{w w':World}{a:Option Addr}{n:Nat}{f:Nat→ByteArray}(h:vY w a n f)(hB:Below w.heap.size w w'):vY w' a n f:=by
 rcases h with h | ⟨g,h1,h2,h3⟩
 ·exact .inl h
 ·exact .inr ⟨g,h1,Nat.lt_of_lt_of_le h2 hB.size,fun j hj=>by rw[hB.cell (p:=⟨g,j,none⟩) h2];exact h3 j hj⟩
theorem EI:(Tryz.prog.info? 5).map (fun i=>(i.zero,i.size,i.bytes))=some (some (.int .u8 0),1,1):=by kernel_rfl
theorem ze(a:Option Addr)(n cap:Nat)(f:Nat→ByteArray)(w:World)(hn:n≤600000)(hS:vY w a n f)(hz:∀k,k≤n→(om f k).size≤8000):
  Calls Tryz.prog 11 #[.slice a n cap] w fun e w'=>e=.returned (.string (om f n))∧Below w.heap.size w w':=by
 obtain⟨i0,hinf,hz0,hz1,hz2⟩:=info_parts EI;have hm8:100000≤maxLen:=by decide +kernel
 have B0:=yz (an w (.cells #[] 5));have O0:=yz (rh w w.heap.size (Nat.le_refl _));have HS:=yz hS;have HZ:=yz hz;clear hS hz;go_enter Tryz.func11,Tryz.ntmps11;go_wp2_with fail;go_loopw [3,4] (fun v i wr=>∃k:Nat,i=.int .i64 k∧k≤n∧Hid (v≠.slice none 0 0)∧Hid (wr.ownsRow w.heap.size 5 1 v (om f k).size (Lib.strCells (om f k)))∧Hid (Below w.heap.size w wr)) (fun _ i _=>n-(intOf i).toNat)
 case atStart=>exact⟨0,rfl,by omega,yz (by intro h;injection h with h;cases h),O0,B0⟩
 case round=>
  clear O0 B0;obtain⟨k,rfl,hk,HN,HO,HB⟩:=hrel;by_cases hkn:k<n
  ·have hkn2:(k:Int)<(n:Int):=by omega
   obtain⟨g,rfl,hg,hc⟩:∃g,a=some ⟨g,0,none⟩∧g<wr.heap.size∧∀j,j<n→wr.cell? ⟨g,j,none⟩=some (.string (f j)):=by
    rcases(yy HS).kept (yy HB) with h | h
    ·omega
    ·exact h
   have c0:=hc k hkn;have z0:=yy HZ k hk;have z1:=yy HZ (k+1) hkn;have HC:Hid (om f (k+1)=om f k ++ f k):=yz rfl;rw[yy HC,ByteArray.size_append]at z1;have hown:=yy HO;have hlo:=(yy HB).size;clear hc;generalize om f k=tx at *;generalize f k=x at c0 z1 HC;go_wp2_with (at_builtin;refine Lib.wpList_append_own_string _ rfl (.tmp 12) (.tmp 16) 22 9 rfl w.heap.size 5 i0 Tryz.underlying22 Tryz.underlying9 hinf hz0 hz1 hz2 _ _ _ rfl hown x rfl ?d3 ?d4 ?d5 ?_;rotate_right;intro v7 V7 hown7 hgrow7 hnil7)
   case d3=>omega
   case d4=>omega
   case d5=>exact hlo
   have HN7:Hid (v7≠.slice none 0 0):=yz (fun e=>yy HN (hnil7.1 e).1)
   have HO7:Hid (V7.ownsRow w.heap.size 5 1 v7 (om f (k+1)).size (Lib.strCells (om f (k+1)))):=yz (by
    rw[yy HC,nU,ByteArray.size_append]
    exact hown7)
   have HB7:=yz (kB (yy HB) hgrow7 hlo (fun g e=>(hown.lt _ e).1));clear hown7 hgrow7 hnil7 hown HO HB HN c0;go_wp2_with fail;go_roundw
   case rel=>exact⟨k+1,by go_num,by omega,HN7,HO7,HB7⟩
   case measure=>simp[intOf]<;>omega
  ·have hkn2:¬(k:Int)<(n:Int):=by omega
   obtain rfl:k=n:=by omega
   have hcv:=rk (yy HO) (yy HN);go_wp2_with fail;go_ret;exact⟨rfl,yy HB⟩
theorem on(R:List (List UInt8)):∀k,k≤R.length→om (fun j=>⟨(R.getD j [] ++ [10]).toArray⟩) k=qq (R.take k)
 | 0,_=>rfl
 | k+1,h=>by
  have ih:=on R k (by omega)
  have e:R.take (k+1)=R.take k ++ [R.getD k []]:=by
   rw[List.take_succ_eq_append_getElem (by omega),List.getD_eq_getElem?_getD,List.getElem?_eq_getElem (by omega)];rfl
  unfold om;rw[ih,e];unfold qq;rw[qr];apply ByteArray.ext;simp[eU,ByteArray.data_append]
theorem ni{w w1 w2:World}{b:Nat}(h:w.grownBy w1 (some b))(hb:Below w1.heap.size w1 w2):w.grownBy w2 (some b):=ay h (gN hb (some b))
theorem oM(P:ByteArray→Prop)(b L n cap:Nat)(w:World)(hS:bn b w)(h1:1<n)(hn:n≤100)(hL:L≠b)(hc:∀k,k<n→∃r:ByteArray,w.cell? ⟨L,k,none⟩=some (.string r)∧P r):
  Calls Tryz.prog 44 #[.pointer (some ⟨b,0,none⟩),.slice (some ⟨L,0,none⟩) n cap] w fun e w'=>∃r:ByteArray,e=.returned (.string r)∧P r∧bn b w'∧w.grownBy w' (some b):=by
 have HS:=yz hS;have HC:=yz hc;clear hS hc;go_enter Tryz.func44,Tryz.ntmps44;go_wp2_with fail;refine(dV b _ _ (yy HS) (by omega)).mono ?_;rintro e w1 ⟨z,rfl,z0,z1,_,hS1,hg⟩;have hz:=z1 (by omega);obtain⟨k,rfl⟩:∃k:Nat,z=(k:Int):=⟨z.toNat,by omega⟩
 obtain⟨r,hr,hr2⟩:=yy HC k (by omega);have hr':=cu hr hg hL;have HS1:=yz hS1;have HG:=yz hg;have HP:=yz hr2;clear hS1 hg HS HC z1 hr hr2;go_wp2_with fail;go_ret;exact⟨r,rfl,yy HP,yy HS1,yy HG⟩
def vh(r:ByteArray):Prop:=1≤r.size∧r.size≤30
theorem kV{a b:ByteArray}(h:vh a)(ha:a.size≤10)(hb:b.size≤11):vh (a ++ b):=by
 unfold vh at *;rw[ByteArray.size_append];omega
theorem uq(n:Nat)(h:n<1000):(eG n).size≤11:=by
 have h1:(eG n).size≤3:=by
  unfold eG;split
  ·exact(by decide:(ByteArray.mk #[48]).size≤3)
  ·exact uo 3 n (by omega)
 omega
theorem lit4(w:World)(t:TypeId)(k:Nat)(hk:k<4):∃r:ByteArray,(w.alloc (.cells #[.string ⟨#[114,101,115,101,116]⟩,.string ⟨#[109,111,118,101,32,49,44,48,44,48,44,49]⟩,.string ⟨#[100,114,105,102,116,32,120]⟩,.string ⟨#[109,111,118,101,32,48,44,48,44,48,44,48]⟩] t)).cell? ⟨w.heap.size,k,none⟩=some (.string r)∧vh r:=by
 have h:k=0∨k=1∨k=2∨k=3:=by omega
 rcases h with rfl | rfl | rfl | rfl
 ·exact⟨⟨#[114,101,115,101,116]⟩,by simp,(by decide:1≤(ByteArray.mk #[114,101,115,101,116]).size∧(ByteArray.mk #[114,101,115,101,116]).size≤30)⟩
 ·exact⟨⟨#[109,111,118,101,32,49,44,48,44,48,44,49]⟩,by simp,(by decide:1≤(ByteArray.mk #[109,111,118,101,32,49,44,48,44,48,44,49]).size∧(ByteArray.mk #[109,111,118,101,32,49,44,48,44,48,44,49]).size≤30)⟩
 ·exact⟨⟨#[100,114,105,102,116,32,120]⟩,by simp,(by decide:1≤(ByteArray.mk #[100,114,105,102,116,32,120]).size∧(ByteArray.mk #[100,114,105,102,116,32,120]).size≤30)⟩
 ·exact⟨⟨#[109,111,118,101,32,48,44,48,44,48,44,48]⟩,by simp,(by decide:1≤(ByteArray.mk #[109,111,118,101,32,48,44,48,44,48,44,48]).size∧(ByteArray.mk #[109,111,118,101,32,48,44,48,44,48,44,48]).size≤30)⟩
theorem lit2(w:World)(t:TypeId)(k:Nat)(hk:k<2):∃r:ByteArray,(w.alloc (.cells #[.string ⟨#[109,111,118,101,32]⟩,.string ⟨#[100,114,105,102,116,32]⟩] t)).cell? ⟨w.heap.size,k,none⟩=some (.string r)∧(vh r∧r.size≤10):=by
 have h:k=0∨k=1:=by omega
 rcases h with rfl | rfl
 ·exact⟨⟨#[109,111,118,101,32]⟩,by simp,(by decide:(1≤(ByteArray.mk #[109,111,118,101,32]).size∧(ByteArray.mk #[109,111,118,101,32]).size≤30)∧(ByteArray.mk #[109,111,118,101,32]).size≤10)⟩
 ·exact⟨⟨#[100,114,105,102,116,32]⟩,by simp,(by decide:(1≤(ByteArray.mk #[100,114,105,102,116,32]).size∧(ByteArray.mk #[100,114,105,102,116,32]).size≤30)∧(ByteArray.mk #[100,114,105,102,116,32]).size≤10)⟩
theorem yU(b:Nat)(w:World)(hS:bn b w):
  Calls Tryz.prog 26 #[.pointer (some ⟨b,0,none⟩)] w fun e w'=>∃r:ByteArray,e=.returned (.string r)∧vh r∧bn b w'∧w.grownBy w' (some b):=by
 have HS:=yz hS;clear hS;go_enter Tryz.func26,Tryz.ntmps26;go_wp2_with fail;refine(dV b 8 _ (yy HS) (by omega)).mono ?_;rintro e w1 ⟨z,rfl,z0,z1,_,hS1,hg⟩;have hz:=z1 (by omega);have HS1:=yz hS1;have HG1:=yz hg;have hbw:=hS1.lt;clear hS1 hg HS z1;have hc:z=0∨z=1∨z=2∨z=3∨z=4∨z=5∨z=6∨z=7:=by omega
 have move:z=0∨z=1→True:=fun _=>trivial;clear move hz z0;rcases hc with rfl | rfl | rfl | rfl | rfl | rfl | rfl | rfl
 ·go_wp2_with fail;refine(oM (fun r=>vh r∧r.size≤10) b w1.heap.size 2 2 _ ((yy HS1).allocs _) (by omega) (by omega) (by omega) (fun k hk=>lit2 w1 9 k hk)).mono ?_;rintro e w2 ⟨r,rfl,⟨hr,hr9⟩,hS2,hg2⟩;have HS2:=yz hS2;have HG2:=yz (ay (ff (yy HG1) _) hg2);have HR:=yz hr;clear hS2 hg2 hr HS1 HG1;go_wp2_with fail;refine(pi b _ (yy HS2)).mono ?_;rintro e w3 ⟨t1,t2,t3,t4,rfl,hS3,hg3⟩;have HS3:=yz hS3;have HG3:=yz (ay (yy HG2) hg3);clear hS3 hg3 HS2 HG2;go_wp2_with fail;refine(it t1 t2 t3 t4 _).mono ?_;rintro e w4 ⟨rfl,hx⟩;have ht:=jH t1 t2 t3 t4;generalize cy t1 t2 t3 t4=t at ht ⊢;have HS4:=yz ((yy HS3).below hx);have HG4:=yz (ni (yy HG3) hx);have hcat:¬9223372036854775807<r.size+t.size:=by omega
  have HR2:=yz (kV (yy HR) hr9 ht);clear hx HS3 HG3 ht;go_wp2_with fail;go_ret;exact⟨_,rfl,yy HR2,yy HS4,yy HG4⟩
 ·go_wp2_with fail;refine(oM (fun r=>vh r∧r.size≤10) b w1.heap.size 2 2 _ ((yy HS1).allocs _) (by omega) (by omega) (by omega) (fun k hk=>lit2 w1 9 k hk)).mono ?_;rintro e w2 ⟨r,rfl,⟨hr,hr9⟩,hS2,hg2⟩;have HS2:=yz hS2;have HG2:=yz (ay (ff (yy HG1) _) hg2);have HR:=yz hr;clear hS2 hg2 hr HS1 HG1;go_wp2_with fail;refine(pi b _ (yy HS2)).mono ?_;rintro e w3 ⟨t1,t2,t3,t4,rfl,hS3,hg3⟩;have HS3:=yz hS3;have HG3:=yz (ay (yy HG2) hg3);clear hS3 hg3 HS2 HG2;go_wp2_with fail;refine(it t1 t2 t3 t4 _).mono ?_;rintro e w4 ⟨rfl,hx⟩;have ht:=jH t1 t2 t3 t4;generalize cy t1 t2 t3 t4=t at ht ⊢;have HS4:=yz ((yy HS3).below hx);have HG4:=yz (ni (yy HG3) hx);have hcat:¬9223372036854775807<r.size+t.size:=by omega
  have HR2:=yz (kV (yy HR) hr9 ht);clear hx HS3 HG3 ht;go_wp2_with fail;go_ret;exact⟨_,rfl,yy HR2,yy HS4,yy HG4⟩
 ·go_wp2_with fail;refine(dV b 5 _ ((yy HS1).allocs _) (by omega)).mono ?_;rintro e w2 ⟨z,rfl,z0,z1,_,hS2,hg2⟩;have hz:=z1 (by omega);have HS2:=yz hS2;have HG2:=yz (ay (ff (yy HG1) _) hg2);obtain⟨k,rfl⟩:∃k:Nat,z=(k:Int):=⟨z.toNat,by omega⟩
  have hk:k<5:=by omega
  obtain⟨v,hv,hv2⟩:∃v:Nat,w2.cell? ⟨w1.heap.size,k,none⟩=some (.int .i64 (v:Int))∧v<1000:=by
   have h:k=0∨k=1∨k=2∨k=3∨k=4:=by omega
   rcases h with rfl | rfl | rfl | rfl | rfl
   ·exact⟨0,cu (by simp) hg2 (by omega),by decide⟩
   ·exact⟨50,cu (by simp) hg2 (by omega),by decide⟩
   ·exact⟨80,cu (by simp) hg2 (by omega),by decide⟩
   ·exact⟨95,cu (by simp) hg2 (by omega),by decide⟩
   ·exact⟨101,cu (by simp) hg2 (by omega),by decide⟩
  clear hS2 hg2 HS1 HG1 z1;go_wp2_with fail;refine(fj v _ (by omega)).mono ?_;rintro e w3 ⟨rfl,hx⟩;have ht:=uq v hv2;generalize eG v=t at ht ⊢;have HS3:=yz ((yy HS2).below hx);have HG3:=yz (ni (yy HG2) hx);have HR2:=yz (kV (a:=⟨#[115,101,101,32]⟩) (b:=t) ⟨by decide,by decide⟩ (by decide) ht);have hcat:¬9223372036854775807<(⟨#[115,101,101,32]⟩:ByteArray).size+t.size:=by have:(⟨#[115,101,101,32]⟩:ByteArray).size=4:=rfl;omega
  clear hx HS2 HG2 ht hv;go_wp2_with fail;go_ret;exact⟨_,rfl,yy HR2,yy HS3,yy HG3⟩
 ·go_wp2_with fail;refine(dV b 5 _ ((yy HS1).allocs _) (by omega)).mono ?_;rintro e w2 ⟨z,rfl,z0,z1,_,hS2,hg2⟩;have hz:=z1 (by omega);have HS2:=yz hS2;have HG2:=yz (ay (ff (yy HG1) _) hg2);obtain⟨k,rfl⟩:∃k:Nat,z=(k:Int):=⟨z.toNat,by omega⟩
  have hk:k<5:=by omega
  obtain⟨v,hv,hv2⟩:∃v:Nat,w2.cell? ⟨w1.heap.size,k,none⟩=some (.int .i64 (v:Int))∧v<1000:=by
   have h:k=0∨k=1∨k=2∨k=3∨k=4:=by omega
   rcases h with rfl | rfl | rfl | rfl | rfl
   ·exact⟨0,cu (by simp) hg2 (by omega),by decide⟩
   ·exact⟨50,cu (by simp) hg2 (by omega),by decide⟩
   ·exact⟨80,cu (by simp) hg2 (by omega),by decide⟩
   ·exact⟨95,cu (by simp) hg2 (by omega),by decide⟩
   ·exact⟨101,cu (by simp) hg2 (by omega),by decide⟩
  clear hS2 hg2 HS1 HG1 z1;go_wp2_with fail;refine(fj v _ (by omega)).mono ?_;rintro e w3 ⟨rfl,hx⟩;have ht:=uq v hv2;generalize eG v=t at ht ⊢;have HS3:=yz ((yy HS2).below hx);have HG3:=yz (ni (yy HG2) hx);have HR2:=yz (kV (a:=⟨#[115,101,101,32]⟩) (b:=t) ⟨by decide,by decide⟩ (by decide) ht);have hcat:¬9223372036854775807<(⟨#[115,101,101,32]⟩:ByteArray).size+t.size:=by have:(⟨#[115,101,101,32]⟩:ByteArray).size=4:=rfl;omega
  clear hx HS2 HG2 ht hv;go_wp2_with fail;go_ret;exact⟨_,rfl,yy HR2,yy HS3,yy HG3⟩
 ·go_wp2_with fail;refine(dV b 2 _ ((yy HS1).allocs _) (by omega)).mono ?_;rintro e w2 ⟨z,rfl,z0,z1,_,hS2,hg2⟩;have hz:=z1 (by omega);have HS2:=yz hS2;have HG2:=yz (ay (ff (yy HG1) _) hg2);obtain⟨k,rfl⟩:∃k:Nat,z=(k:Int):=⟨z.toNat,by omega⟩
  have hk:k<2:=by omega
  obtain⟨v,hv,hv2⟩:∃v:Nat,w2.cell? ⟨w1.heap.size,k,none⟩=some (.int .i64 (v:Int))∧v<1000:=by
   have h:k=0∨k=1:=by omega
   rcases h with rfl | rfl
   ·exact⟨0,cu (by simp) hg2 (by omega),by decide⟩
   ·exact⟨80,cu (by simp) hg2 (by omega),by decide⟩
  clear hS2 hg2 HS1 HG1 z1;go_wp2_with fail;refine(fj v _ (by omega)).mono ?_;rintro e w3 ⟨rfl,hx⟩;have ht:=uq v hv2;generalize eG v=t at ht ⊢;have HS3:=yz ((yy HS2).below hx);have HG3:=yz (ni (yy HG2) hx);have HR2:=yz (kV (a:=⟨#[105,100,115,32]⟩) (b:=t) ⟨by decide,by decide⟩ (by decide) ht);have hcat:¬9223372036854775807<(⟨#[105,100,115,32]⟩:ByteArray).size+t.size:=by have:(⟨#[105,100,115,32]⟩:ByteArray).size=4:=rfl;omega
  clear hx HS2 HG2 ht hv;go_wp2_with fail;go_ret;exact⟨_,rfl,yy HR2,yy HS3,yy HG3⟩
 ·go_wp2_with fail;go_ret;exact⟨_,rfl,⟨by decide,by decide⟩,yy HS1,yy HG1⟩
 ·go_wp2_with fail;go_ret;exact⟨_,rfl,⟨by decide,by decide⟩,yy HS1,yy HG1⟩
 ·go_wp2_with fail;refine(oM vh b w1.heap.size 4 4 _ ((yy HS1).allocs _) (by omega) (by omega) (by omega) (fun k hk=>lit4 w1 9 k hk)).mono ?_;rintro e w2 ⟨r,rfl,hr,hS2,hg2⟩;have HS2:=yz hS2;have HG2:=yz (ay (ff (yy HG1) _) hg2);have HR:=yz hr;clear hS2 hg2 hr HS1 HG1;go_wp2_with fail;go_ret;exact⟨r,rfl,yy HR,yy HS2,yy HG2⟩
theorem tt{z:Int}(h0:0≤z)(h1:z≤12):∃q:Int,wrap64 (z.tdiv 2)=q∧0≤q∧q≤6:=by
 have h:z.tdiv 2=z / 2:=by rw[Int.tdiv_eq_ediv_of_nonneg h0]
 exact⟨z / 2,by rw[h];exact au (by omega) (by omega),by omega,by omega⟩
theorem xZ{b:Nat}{w:World}(h:bn b w):∃z:Int,w.cell? ⟨b,3,none⟩=some (.int .i64 z)∧0≤z∧z≤12:=by
 obtain⟨a,len,cap,at_,mix,size,h0,h1,h2,h3,f0,f1,f2,f3,a0,a1,l1,m0,m1,s0,s1,r⟩:=h;exact⟨size,h3,s0,s1⟩
theorem xf(b:Nat)(w:World)(hS:bn b w):
  Calls Tryz.prog 14 #[.pointer (some ⟨b,0,none⟩)] w fun e w'=>∃r:ByteArray,e=.returned (.string r)∧r.size≤500∧bn b w'∧w.grownBy w' (some b):=by
 have HS:=yz hS;clear hS;go_enter Tryz.func14,Tryz.ntmps14;go_wp2_with fail;refine(gt b 2 _ (yy HS) (by omega)).mono ?_;rintro e w1 ⟨y,rfl,hS1,hg⟩;have HS1:=yz hS1;have HG1:=yz hg;obtain⟨z,hz,z0,z12⟩:=xZ hS1;obtain⟨q,hq,q0,q6⟩:=tt z0 z12;clear hS1 hg HS;go_upto_if 7 with fail;go_cut [3] from 8 (fun t wx=>wx=w1∧∃r:ByteArray,t=.string r∧r.size≤6)
 case first=>
  cases y
  ·go_wp2_with fail;go_meet
   exact⟨rfl,_,rfl,by decide⟩
  ·go_wp2_with fail;go_meet
   exact⟨rfl,_,rfl,by decide⟩
 case rest=>
  obtain⟨rfl,r0,rfl,hr0⟩:=hcut;clear hz;obtain⟨z,hz,z0,z12⟩:=xZ (yy HS1);obtain⟨q,hq,q0,q6⟩:=tt z0 z12;have hq7:6+q≤12:=by omega
  go_wp2_with fail;refine(dV b _ _ (yy HS1) (by omega)).mono ?_;rintro e w2 ⟨k,rfl,k0,k1,_,hS2,hg2⟩;have hk:=k1 (by omega);obtain⟨m,rfl⟩:∃m:Nat,k=(m:Int):=⟨k.toNat,by omega⟩
  have hm:m≤11:=by omega
  have HS2:=yz hS2;have HG2:=yz (ay (yy HG1) hg2);clear hz hq q0 q6 k0 k1 hk hq7 hS2 hg2 HS1 HG1 z0 z12;go_wp2_with fail;go_loopw [3,4] (fun t v wr=>∃(r:ByteArray) (n:Nat),t=.string r∧v=.int .i64 n∧n≤12∧r.size+31*n≤400∧Hid (bn b wr)∧Hid (w.grownBy wr (some b))) (fun _ v _=>(intOf v).toNat)
  case atStart=>exact⟨r0,m+1,rfl,by go_num,by omega,by omega,HS2,HG2⟩
  case round=>
   obtain⟨r,n,rfl,rfl,hn,hr,HS3,HG3⟩:=hrel;clear HS2 HG2;by_cases hn0:0<n
   ·have hnz:(0:Int)<(n:Int):=by omega
    go_wp2_with fail;refine(yU b _ (yy HS3)).mono ?_;rintro e w4 ⟨x,rfl,hx,hS4,hg4⟩;have HS4:=yz hS4;have HG4:=yz (ay (yy HG3) hg4);obtain⟨hx1,hx30⟩:=hx;clear hS4 hg4 HS3 HG3;have hx0:0<x.size:=hx1;by_cases h6:6<x.size
    ·have h6z:(6:Int)<(x.size:Int):=by omega
     go_wp2_with fail
     all_goals
      first
      | exact⟨⟨r,n-1,rfl,congrArg _ (by omega),by omega,by omega,HS4,HG4⟩,by simp[intOf];omega⟩
      | exact⟨⟨_,n-1,rfl,congrArg _ (by omega),by omega,by simp only[ByteArray.size_append];have h1:(⟨#[10]⟩:ByteArray).size=1:=rfl;omega,HS4,HG4⟩,by simp[intOf];omega⟩
    ·have h6z:¬(6:Int)<(x.size:Int):=by omega
     go_wp2_with fail
     all_goals
      first
      | exact⟨⟨r,n-1,rfl,congrArg _ (by omega),by omega,by omega,HS4,HG4⟩,by simp[intOf];omega⟩
      | exact⟨⟨_,n-1,rfl,congrArg _ (by omega),by omega,by simp only[ByteArray.size_append];have h1:(⟨#[10]⟩:ByteArray).size=1:=rfl;omega,HS4,HG4⟩,by simp[intOf];omega⟩
   ·have hnz:¬(0:Int)<(n:Int):=by omega
    go_wp2_with fail;go_ret;exact⟨r,rfl,by omega,yy HS3,yy HG3⟩
theorem pD(ca:Option Addr)(len cc:Nat)(w:World)(hl:len≤1048576)(hR:Row w ca len w.heap.size):
  Calls Tryz.prog 5 #[.slice ca len cc] w fun e w'=>(∃r:ByteArray,e=.returned (.string r)∧r.size≤20000)∧Below w.heap.size w w':=by
 have hC:=zv ca len cc w hl hR;clear hR;go_enter Tryz.func5,Tryz.ntmps5;go_wp2_with fail;refine hC.mono ?_;rintro e w1 ⟨rfl,hS1,hB1⟩;have HS1:=yz hS1;have HB1:=yz hB1;clear hS1 hB1 hC;go_wp2_with fail;refine(xf w.heap.size _ (yy HS1)).mono ?_;rintro e w2 ⟨t,rfl,ht,hS2,hg2⟩;have HS2:=yz hS2;have HB2:=yz (jP (yy HB1) hg2 (Nat.le_refl _));clear hS2 hg2 HS1 HB1;go_wp2_with fail;refine(gt w.heap.size 8 _ (yy HS2) (by omega)).mono ?_;rintro e w3 ⟨y,rfl,hS3,hg3⟩;have HS3:=yz hS3;have HB3:=yz (jP (yy HB2) hg3 (Nat.le_refl _));clear hS3 hg3 HS2 HB2;cases y
 ·go_wp2_with fail;go_ret;exact⟨⟨t,rfl,by omega⟩,yy HB3⟩
 ·go_wp2_with fail;refine(zx w.heap.size t _ (yy HS3) (by omega)).mono ?_;rintro e w4 ⟨r,rfl,hr,hS4,hg4⟩;have HB4:=yz (jP (yy HB3) hg4 (Nat.le_refl _));clear hS4 hg4 HS3 HB3;go_wp2_with fail;go_ret;exact⟨⟨r,rfl,by omega⟩,yy HB4⟩
end
section
open Go.Value renaming int → J
open Go.IntKind renaming i64 → Z
open Go.RowKit Go.Sort
theorem np(s:ByteArray)(w:World)(hs:s.size≤1048576)(hm:mL w):
  Calls Tryz.prog 8 #[.string s] w fun e w'=>e=.returned (.agg #[.string ⟨#[]⟩,J Z (fE s),J Z (dA s)])∧Below w.heap.size w w':=by
 have HR0:=yz (aq w [.string ⟨#[]⟩,J Z 0,J Z 0] 25);have HB0:=yz (an w (.cells #[.string ⟨#[]⟩,J Z 0,J Z 0] 25));have cR:=yz (nF s (w.alloc (.cells #[.string ⟨#[]⟩,J Z 0,J Z 0] 25)) hs (hm.kept (yy HB0)));unfold Ck at cR;generalize fE s=n at *;generalize dA s=c at *;generalize dJ s=ls at *;go_enter Tryz.func8,Tryz.ntmps8;go_wp2_with fail;refine(yy cR).mono ?_;rintro e W1 ⟨⟨v,rfl,_⟩,hx⟩;have hy:=an W1 (.cells #[.string ⟨#[]⟩,J Z n,J Z c] 25);have HB2:=ax (ax HB0 hx) hy;have HR2:=aQ HR0 hx hy;have x0:=(aq W1 [.string ⟨#[]⟩,J Z n,J Z c] 25).cell 0 _ rfl;have x1:=(aq W1 [.string ⟨#[]⟩,J Z n,J Z c] 25).cell 1 _ rfl;have x2:=(aq W1 [.string ⟨#[]⟩,J Z n,J Z c] 25).cell 2 _ rfl;clear hx hy cR;have r0:=(yy HR2).cell 0 _ rfl;have f0:=(yy HR2).free 0;have r1:=(yy HR2).cell 1 _ rfl;have f1:=(yy HR2).free 1;have r2:=(yy HR2).cell 2 _ rfl;have f2:=(yy HR2).free 2;go_wp2_with fail;refine bodyPost_ret (v:=.agg #[.string ⟨#[]⟩,J Z n,J Z c]) ?_ rfl ⟨rfl,?_⟩
 ·have h:=(((yy HR2).set 0 (.string ⟨#[]⟩)).set 1 (J Z n)).set 2 (J Z c);obtain⟨h0,h1,h2⟩:=jN (h);simp[results,Tryz.results8,go_sem,h0,h1,h2]
 ·exact((((yy HB2).setCell (Nat.le_refl _) _).setCell (Nat.le_refl _) _).setCell (Nat.le_refl _) _)
end
section
open Go.RowKit
theorem nv(n:Nat):bO (n:Int)=eG n:=by
 unfold bO Lib.itoa;rw[if_neg (by omega),Int.toNat_natCast];by_cases h:n=0
 ·subst h;have:Lib.decDigits 0=[48]:=by rw[Lib.decDigits];rfl
  rw[this];rfl
 ·rw[qu h];unfold dG;rw[if_neg h]
def gq(xs:List ByteArray)(sep:ByteArray):ByteArray:=⟨(Lib.join (xs.map (·.data.toList)) sep.data.toList).toArray⟩
theorem lu(x sep:ByteArray):gq [x] sep=x:=by
 unfold gq;rw[List.map_cons,List.map_nil,Lib.join_one]
theorem oD(x y sep:ByteArray):gq [x,y] sep=(x ++ sep) ++ y:=by
 unfold gq;apply ByteArray.ext;simp[Lib.join_cons,Lib.joinTail]
theorem Bg(n:Nat):gq [⟨#[101,114,114,111,114]⟩,eG n] ⟨#[32]⟩=gm n:=by
 rw[oD];rfl
theorem tE(xs:List ByteArray)(sep:ByteArray)(m c:Nat)(hm:∀x∈xs,x.size≤m)(hc:xs.length≤c):(Lib.join (xs.map (·.data.toList)) sep.data.toList).length≤(sep.size+m)*c:=by
 cases xs with
 | nil=>exact Nat.zero_le _
 | cons x r=>
  have h2:∀r:List ByteArray,(∀x∈r,x.size≤m)→(Lib.joinTail sep.data.toList (r.map (·.data.toList))).length≤(sep.size+m)*r.length:=by
   intro r
   induction r with
   | nil=>intro _;exact Nat.zero_le _
   | cons y r ih=>
    intro h;have h1:=ih (fun x hx=>h x (List.mem_cons_of_mem _ hx));have h3:=h y (List.mem_cons_self ..)
    have e:(Lib.joinTail sep.data.toList ((y :: r).map (·.data.toList))).length=sep.size+y.size+(Lib.joinTail sep.data.toList (r.map (·.data.toList))).length:=by
     unfold Lib.joinTail;simp[Nat.add_assoc]
    rw[e,List.length_cons,Nat.mul_succ];omega
  rw[List.map_cons,Lib.join_cons,List.length_append];have h1:=h2 r (fun y hy=>hm y (List.mem_cons_of_mem _ hy));have h3:=hm x (List.mem_cons_self ..);have e:x.data.toList.length=x.size:=by simp
  have h4:(sep.size+m)*(r.length+1)≤(sep.size+m)*c:=Nat.mul_le_mul_left _ hc;rw[Nat.mul_succ]at h4;omega
theorem yR(xs:List ByteArray)(y sep:ByteArray)(h:xs≠[]):gq (xs ++ [y]) sep=(gq xs sep ++ sep) ++ y:=by
 cases xs with
 | nil=>exact absurd rfl h
 | cons x r=>
  unfold gq;apply ByteArray.ext;simp[Lib.join_cons,Lib.joinTail]
theorem tD(ids:List Int)(h:∀x∈ids,0≤x):∀k,k≤ids.length→gq ((ids.take k).map bO) ⟨#[44]⟩=iP ids k
 | 0,_=>by unfold gq iP;rfl
 | k+1,hk=>by
  have ih:=tD ids h k (by omega);have hx:=h _ (List.getElem_mem (show k<ids.length by omega))
  have e:bO ids[k]=eG (ids.getD k 0).toNat:=by
   rw[List.getD_eq_getElem?_getD,List.getElem?_eq_getElem (show k<ids.length by omega)];simp only[Option.getD_some];obtain⟨n,hn⟩:=Int.eq_ofNat_of_zero_le hx;rw[hn,nv,Int.toNat_natCast]
  rw[List.take_succ_eq_append_getElem (show k<ids.length by omega),List.map_append,List.map_cons,List.map_nil];unfold iP;by_cases h0:0<k
  ·rw[if_pos h0,yR _ _ _ (by
    intro e;have:=congrArg List.length e;rw[List.length_map,List.length_take]at this;have h9:min k ids.length=0:=this
    omega),ih,e]
  ·obtain rfl:k=0:=by omega
   rw[if_neg h0];show gq [bO ids[0]] _=_;rw[lu,e];unfold iP;apply ByteArray.ext;simp
theorem pm{t:Tk}(h:aH t=true)(S:List D3):aH (dD t S).1=true:=by
 unfold dD;split
 ·rename_i h0
  unfold ei at h0;unfold dP;split at h0
  ·cases h0
  ·rename_i h4
   rw[if_neg h4];split at h0
   ·rename_i h5
    rw[if_pos h5];split at h0
    ·cases h0
    ·rename_i h6
     rw[if_neg h6];exact yX h S h6
   ·cases h0
 ·exact h
theorem mb{t:Tk}(h:aH t=true)(u:U4)(s:ByteArray)(told:Bool):aH (bB t u s told).1.1=true:=by
 unfold bB;split
 ·split
  ·rename_i hk
   cases told
   ·exact h
   ·show aH (go t _ _ _ _)=true;unfold go gn;rw[h,(qs hk).1];exact vO h _ _ _ _
  ·exact h
 ·exact h
theorem yW{d:Tk×U4}(h:aH d.1=true)(l:Ln):aH (fJ d l).1.1=true:=by
 unfold fJ;split
 ·exact pm h _
 ·exact mb h _ _ _
 ·exact h
 ·exact mb h _ _ _
 ·show aH (eF d.1)=true;unfold eF;rw[if_pos h];exact qZ h
 ·exact pm h _
 ·exact h
theorem yg:aH ee.1=true:=by decide +kernel
theorem hF{t:Tk}(h:aH t=true):bV t:=by
 have hm:=ko h;refine⟨Nat.le_trans (cg (BX h)).1 (by decide),?_⟩;by_cases h0:t.mode=0
 ·omega
 ·by_cases h1:t.mode=1
  ·omega
  ·by_cases h2:t.mode=2
   ·omega
   ·rw[oF h0 h1 h2]at hm;cases hm
end
section
open Go.RowKit Go.Sort
theorem jR(n:Nat)(w:World)(hn:n≤1000000000)(ht:Tab w):Calls Tryz.prog 118 #[.int .i64 (n:Int)] w fun e w'=>e=.returned (.string (eG n))∧Below w.heap.size w w':=by
 have cF:Hid (Calls Tryz.prog 149 #[.int .i64 (n:Int),.int .i64 10] w fun e w'=>e=.returned (.string (eG n))∧Below w.heap.size w w'):=yz ((strconv_FormatInt_10 (n:Int) (by omega) (by omega) w ht).mono fun e w' ⟨he,k,os,hw⟩=>⟨by rw[he,←nv];rfl,by subst hw;exact qo _ _ _⟩);generalize eG n=x at *;go_enter Tryz.func118,Tryz.ntmps118;go_wp2_with fail;refine(yy cF).mono ?_;rintro e w' ⟨rfl,hx⟩;go_wp2_with fail;go_ret;exact⟨rfl,hx⟩
def gA(w:World)(b:Nat)(xs:List ByteArray):Prop:=Blk w b (xs.map .string) 9
variable {xs:List ByteArray} {w:World}
theorem gA.cells{b:Nat}(h:gA w b xs):∀(j:Nat) x,xs[j]? = some x→w.cell? ⟨b,0+j,none⟩=some (.string x):=fun j x hj=>by
 rw[Nat.zero_add];exact Blk.cell h j _ (by rw[List.getElem?_map,hj];rfl)
theorem gA.kept{w':World}{b:Nat}(h:gA w b xs)(hB:Below w.heap.size w w'):gA w' b xs:=Blk.kept h hB
theorem CY(xs:List ByteArray)(b:Nat)(sep:ByteArray)(w:World)(h:gA w b xs)(hs:sep.size≤10)(hm:∀x∈xs,x.size≤1000)(hl:xs.length≤400):
  Calls Tryz.prog 119 #[.slice (some ⟨b,0,none⟩) xs.length xs.length,.string sep] w fun e w'=>e=.returned (.string (gq xs sep))∧Below w.heap.size w w':=
 strings_Join b 0 xs.length xs sep w h.cells (Blk.lt h) (by omega) (Nat.le_refl _) (by
  have h1:=tE xs sep 1000 400 hm hl;have h2:(sep.size+1000)*400≤1010*400:=Nat.mul_le_mul_right _ (by omega)
  omega)
theorem lW(xs:List ByteArray)(b:Nat)(w:World)(h:gA w b xs)(hm:∀x∈xs,x.size≤1000)(hl:xs.length≤400):
  Calls Tryz.prog 230 #[.slice (some ⟨b,0,none⟩) xs.length xs.length] w fun e w'=>e=.returned (.string (gq xs ⟨#[32]⟩))∧Below w.heap.size w w':=by
 have cJ:=yz (CY xs b ⟨#[32]⟩ w h (by decide) hm hl);generalize gq xs ⟨#[32]⟩=x at *;go_enter Tryz.func230,Tryz.ntmps230;go_wp2_with fail;refine(yy cJ).mono ?_;rintro e w' ⟨rfl,hx⟩;go_wp2_with fail;go_ret;exact⟨rfl,hx⟩
def ng(a b:Int):Int:=if a≠0 then a else b
theorem kF(a b:Int)(k:Nat)(w:World)(h:Blk w k [.int .i64 a,.int .i64 b] 2):Calls Tryz.prog 114 #[.slice (some ⟨k,0,none⟩) 2 2] w fun e w'=>e=.returned (.int .i64 (ng a b))∧Below w.heap.size w w':=by
 have h0:=h.cell 0 _ rfl;have h1:=h.cell 1 _ rfl;by_cases ha:a=0
 ·have HF:Hid (ng a b=b):=yz (by unfold ng;rw[if_neg (by omega)]);subst ha;by_cases hb:b=0
  ·subst hb;go_enter Tryz.func114,Tryz.ntmps114;go_wp2_with fail;refine wp_loop_rounds 3 ?_;rw[rounds_succ];go_wp2_with fail;rw[rounds_succ];go_wp2_with fail;rw[rounds_succ];go_wp2_with fail;go_ret;rw[yy HF];exact⟨rfl,Below.refl _ _⟩
  ·have hb':(b==0)=false:=by simpa using hb
   go_enter Tryz.func114,Tryz.ntmps114;go_wp2_with fail;refine wp_loop_rounds 2 ?_;rw[rounds_succ];go_wp2_with fail;rw[rounds_succ];go_wp2_with fail;go_ret;rw[yy HF];exact⟨rfl,Below.refl _ _⟩
 ·have HF:Hid (ng a b=a):=yz (by unfold ng;rw[if_pos ha]);have ha':(a==0)=false:=by simpa using ha
  go_enter Tryz.func114,Tryz.ntmps114;go_wp2_with fail;refine wp_loop_rounds 1 ?_;rw[rounds_succ];go_wp2_with fail;go_ret;rw[yy HF];exact⟨rfl,Below.refl _ _⟩
end
section
open Go.Value renaming int → J
open Go.IntKind renaming i64 → Z
open Go.RowKit Go.Sort
def jK(p:Addr)(w:World):Prop:=bE p w∧Tab w
variable {e:Ending} {W w w':World}
theorem jK.kept{p:Addr}(h:jK p w)(hB:Below w.heap.size w w'):jK p w':=⟨h.1.kept hB,h.2.kept hB⟩
def rpV(d:Tk×U4)(a:Option Addr)(cap wb n:Nat):Value:=.iface 99 (.agg #[.slice a d.1.L.length cap,J Z d.1.lim,J Z d.1.mode,J Z d.1.A,J Z d.1.B,J Z d.1.C,J Z d.1.D,J Z d.1.coast,J Z d.1.fr,J Z d.2.1,J Z d.2.2.1,J Z d.2.2.2.1,J Z d.2.2.2.2,.slice (some ⟨wb,0,none⟩) n n])
def Ans(w':World)(B:Nat)(d:Tk×U4)(R:(Tk×U4)×ByteArray)(e:Ending):Prop:=
 (∃n:Nat,0<n∧n≤1000∧e=.returned (.iface 178 (.agg #[J Z (n:Int)]))∧R=(d,gm n)) ∨
 (∃(a:Option Addr) (cap wb:Nat) (xs:List ByteArray),e=.returned (rpV R.1 a cap wb xs.length)∧aC w' B R.1.1.L a cap∧gA w' wb xs∧xs.length≤400∧(∀x∈xs,x.size≤1000)∧gq xs ⟨#[32]⟩=R.2)
theorem Ans.ret{B:Nat}{d:Tk×U4}{R:(Tk×U4)×ByteArray}(h:Ans w' B d R e):∃v,e=.returned v:=by
 rcases h with ⟨_,_,_,h,_⟩ | ⟨_,_,_,_,h,_⟩
 ·exact⟨_,h⟩
 ·exact⟨_,h⟩
theorem Ans.kept{w2:World}{B:Nat}{d:Tk×U4}{R:(Tk×U4)×ByteArray}(h:Ans w' B d R e)(hx:Below w'.heap.size w' w2):Ans w2 B d R e:=by
 rcases h with h | ⟨a,cap,wb,xs,h1,h2,h3,h4⟩
 ·exact .inl h
 ·exact .inr ⟨a,cap,wb,xs,h1,h2.kept hx,h3.kept hx,h4⟩
theorem gG{B:Nat}{L:List St}{a:Option Addr}{cap:Nat}(h:aC w B L a cap):L.length≤cap∧cap≤maxLen:=by
 rcases h.2 with ⟨h1,h0⟩ | ⟨g,c',cur,e,_,_,h1,h2,_⟩
 ·injection h1 with e1 e2 e3;rw[e3,h0];exact⟨Nat.le_refl _,Nat.zero_le _⟩
 ·injection e with e1 e2 e3;rw[e3];exact⟨h1,h2⟩
theorem gZ(a:Option Addr)(n cap:Nat)(lim mode A B' C D coast fr u1 u2 u3 u4 code:Int)(wa:Option Addr)(wn wc:Nat)(w:World)(hc:code≠0):Calls Tryz.prog 113 #[.agg #[.slice a n cap,J Z lim,J Z mode,J Z A,J Z B',J Z C,J Z D,J Z coast,J Z fr,J Z u1,J Z u2,J Z u3,J Z u4],J Z code,.slice wa wn wc] w fun e w'=>e=.returned (.iface 178 (.agg #[J Z code]))∧Below w.heap.size w w':=by
 have hc':(code==0)=false:=by simpa using hc
 go_enter Tryz.func113,Tryz.ntmps113;go_wp2;go_ret;exact⟨rfl,an _ _⟩
theorem fs(a:Option Addr)(n cap:Nat)(lim mode A B' C D coast fr u1 u2 u3 u4:Int)(wa:Option Addr)(wn wc:Nat)(w:World):Calls Tryz.prog 113 #[.agg #[.slice a n cap,J Z lim,J Z mode,J Z A,J Z B',J Z C,J Z D,J Z coast,J Z fr,J Z u1,J Z u2,J Z u3,J Z u4],J Z 0,.slice wa wn wc] w fun e w'=>e=.returned (.iface 99 (.agg #[.slice a n cap,J Z lim,J Z mode,J Z A,J Z B',J Z C,J Z D,J Z coast,J Z fr,J Z u1,J Z u2,J Z u3,J Z u4,.slice wa wn wc]))∧Below w.heap.size w w':=by
 go_enter Tryz.func113,Tryz.ntmps113;go_wp2;go_ret;exact⟨rfl,an _ _⟩
theorem xN(n:Nat)(w:World)(hn:n≤1000)(ht:Tab w):Calls Tryz.prog 231 #[.agg #[J Z (n:Int)]] w fun e w'=>e=.returned (.string (gm n))∧Below w.heap.size w w':=by
 have HB:=yz (an w (.cells #[J Z (n:Int)] 178));have cD:=yz (jR n (w.alloc (.cells #[J Z (n:Int)] 178)) (by omega) (ht.kept (yy HB)));have hz:=ec (n:=n) (by omega);have HJ:=yz (Bg n);generalize gm n=et at *;generalize eG n=xd at *;go_enter Tryz.func231,Tryz.ntmps231;go_wp2_with fail;refine(yy cD).mono ?_;rintro e W1 ⟨rfl,hx⟩;have HB1:=ax HB hx;have HW:Hid (gA (W1.alloc (.cells #[.string ⟨#[101,114,114,111,114]⟩,.string xd] 9)) W1.heap.size [⟨#[101,114,114,111,114]⟩,xd]):=yz (aq W1 [.string ⟨#[101,114,114,111,114]⟩,.string xd] 9);have HB2:=yz (ak (yy HB1) (an W1 (.cells #[.string ⟨#[101,114,114,111,114]⟩,.string xd] 9)))
 have cJ:Hid (Calls Tryz.prog 230 #[.slice (some ⟨W1.heap.size,0,none⟩) 2 2] (W1.alloc (.cells #[.string ⟨#[101,114,114,111,114]⟩,.string xd] 9)) fun e w'=>e=.returned (.string et)∧Below (W1.alloc (.cells #[.string ⟨#[101,114,114,111,114]⟩,.string xd] 9)).heap.size (W1.alloc (.cells #[.string ⟨#[101,114,114,111,114]⟩,.string xd] 9)) w'):=yz (by
  have h:=lW [⟨#[101,114,114,111,114]⟩,xd] W1.heap.size _ (yy HW) (by intro x hx;rcases List.mem_cons.1 hx with rfl | hx;decide;rcases List.mem_cons.1 hx with rfl | hx;omega;cases hx) (by simp);rw[yy HJ]at h
  exact h)
 clear hx cD HW;go_wp2_with fail;refine(yy cJ).mono ?_;rintro e W2 ⟨rfl,hx⟩;have HB3:=ax HB2 hx;clear hx;go_wp2_with fail;go_ret;exact⟨rfl,yy HB3⟩
theorem BK(a:Option Addr)(n cap:Nat)(lim mode A B' C D coast fr u1 u2 u3 u4:Int)(wb:Nat)(xs:List ByteArray)(w:World)(h:gA w wb xs)(hm:∀x∈xs,x.size≤1000)(hl:xs.length≤400):Calls Tryz.prog 229 #[.agg #[.slice a n cap,J Z lim,J Z mode,J Z A,J Z B',J Z C,J Z D,J Z coast,J Z fr,J Z u1,J Z u2,J Z u3,J Z u4,.slice (some ⟨wb,0,none⟩) xs.length xs.length]] w fun e w'=>e=.returned (.string (gq xs ⟨#[32]⟩))∧Below w.heap.size w w':=by
 have HB:=yz (an w (.cells #[.slice a n cap,J Z lim,J Z mode,J Z A,J Z B',J Z C,J Z D,J Z coast,J Z fr,J Z u1,J Z u2,J Z u3,J Z u4,.slice (some ⟨wb,0,none⟩) xs.length xs.length] 99));have c13:=(aq w [.slice a n cap,J Z lim,J Z mode,J Z A,J Z B',J Z C,J Z D,J Z coast,J Z fr,J Z u1,J Z u2,J Z u3,J Z u4,.slice (some ⟨wb,0,none⟩) xs.length xs.length] 99).cell 13 _ rfl;have cJ:=yz (lW xs wb _ (h.kept (yy HB)) hm hl);generalize gq xs ⟨#[32]⟩=x at *;go_enter Tryz.func229,Tryz.ntmps229;go_wp2_with fail;refine(yy cJ).mono ?_;rintro e W1 ⟨rfl,hx⟩;have HB1:=ax HB hx;clear hx c13;go_wp2_with fail;go_ret;exact⟨rfl,yy HB1⟩
theorem xm(t:Tk)(S:List D3):0≤(dP t S).mode∧(dP t S).mode≤2:=by
 by_cases h:ei t S=0
 ·exact kg h
 ·have e:dP t S=fO:=by
   unfold ei at h;unfold dP;split at h
   ·rename_i h4;rw[if_pos h4]
   ·rename_i h4
    rw[if_neg h4];split at h
    ·rename_i h5
     rw[if_pos h5];split at h
     ·rename_i h6;rw[if_pos h6]
     ·exact absurd rfl h
    ·rename_i h5;rw[if_neg h5]
  rw[e];exact⟨by decide,by decide⟩
theorem oj{b:Nat}{v0 v1 v2 v3 v4 v5 v6 v7 v8 v9 v10 v11 v12:Value}{t:TypeId}(h:Blk W b [v0,v1,v2,v3,v4,v5,v6,v7,v8,v9,v10,v11,v12] t)(x0 x1 x2 x3 x4 x5 x6 x7 x8:Value):Blk (((((((((W.setCell ⟨b,0,none⟩ x0).setCell ⟨b,1,none⟩ x1).setCell ⟨b,2,none⟩ x2).setCell ⟨b,3,none⟩ x3).setCell ⟨b,4,none⟩ x4).setCell ⟨b,5,none⟩ x5).setCell ⟨b,6,none⟩ x6).setCell ⟨b,7,none⟩ x7).setCell ⟨b,8,none⟩ x8) b [x0,x1,x2,x3,x4,x5,x6,x7,x8,v9,v10,v11,v12] t:=Blk.set (Blk.set (Blk.set (Blk.set (Blk.set (Blk.set (Blk.set (Blk.set (Blk.set h 0 x0) 1 x1) 2 x2) 3 x3) 4 x4) 5 x5) 6 x6) 7 x7) 8 x8
theorem mj(W:World)(b:Nat)(x0 x1 x2 x3 x4 x5 x6 x7 x8:Value):W.grownBy (((((((((W.setCell ⟨b,0,none⟩ x0).setCell ⟨b,1,none⟩ x1).setCell ⟨b,2,none⟩ x2).setCell ⟨b,3,none⟩ x3).setCell ⟨b,4,none⟩ x4).setCell ⟨b,5,none⟩ x5).setCell ⟨b,6,none⟩ x6).setCell ⟨b,7,none⟩ x7).setCell ⟨b,8,none⟩ x8) (some b):=aF (aF (aF (aF (aF (aF (aF (aF (aF (aV (Below.refl _ _)) 0 _) 1 _) 2 _) 3 _) 4 _) 5 _) 6 _) 7 _) 8 _
theorem gF{W2:World}{b:Nat}(h:Below w.heap.size w W)(hg:W.grownBy W2 (some b))(hb:w.heap.size≤b):Below w.heap.size w W2:=kB h hg h.size (fun g e=>by have:=Option.some.inj e;omega)
theorem td(w:World)(B:Nat)(t:Tk)(u:U4)(a:Option Addr)(cap:Nat)(p:Addr)(S:List D3)(br:Option Addr)(dr:Nat)(hn2:S.length≤1048576)(hk:aH t=true)(hB:B≤w.heap.size)(hC:aC w B t.L a cap)(hE:jK p w)(hS:dh w br S S.length)(hb:∀y,br=some y→y.block<w.heap.size)(hdr:S.length≤dr)(hd9:dr≤9223372036854775807):
  Calls Tryz.prog 110 #[.agg #[.slice a t.L.length cap,J Z t.lim,J Z t.mode,J Z t.A,J Z t.B,J Z t.C,J Z t.D,J Z t.coast,J Z t.fr,J Z u.1,J Z u.2.1,J Z u.2.2.1,J Z u.2.2.2],.slice br S.length dr] w fun e w'=>Ans w' B (t,u) (((dD t S).1,u),(dD t S).2) e∧Below w.heap.size w w':=by
 have hmx:maxLen≤9223372036854775807:=by decide +kernel
 have hn:t.L.length≤1048576:=Nat.le_trans (hF hk).1 (by decide);obtain⟨u1,u2,u3,u4⟩:=u;obtain⟨L,lim,mode,A,B',C,D,coast,fr⟩:=t;dsimp only at hn hC ⊢;have HZ:=yz (an w (.cells #[.slice a L.length cap,J Z lim,J Z mode,J Z A,J Z B',J Z C,J Z D,J Z coast,J Z fr,J Z u1,J Z u2,J Z u3,J Z u4] 61));have HD:=yz (aq w [.slice a L.length cap,J Z lim,J Z mode,J Z A,J Z B',J Z C,J Z D,J Z coast,J Z fr,J Z u1,J Z u2,J Z u3,J Z u4] 61);have hcp:=gG hC;have hC0:=hC.kept (yy HZ);have cL:=yz (uC L S lim mode A B' C D coast fr a cap br dr p (w.alloc (.cells #[.slice a L.length cap,J Z lim,J Z mode,J Z A,J Z B',J Z C,J Z D,J Z coast,J Z fr,J Z u1,J Z u2,J Z u3,J Z u4] 61)) hn hn2 hC0.stars (hS.kept (yy HZ)) (gX hC0) (fun y e=>Nat.lt_of_lt_of_le (hb y e) (yy HZ).size) hcp.1 (by omega) hdr hd9 (hE.kept (yy HZ)).1);have HE:=yz hE;have HR:Hid (dD ⟨L,lim,mode,A,B',C,D,coast,fr⟩ S=if ei ⟨L,lim,mode,A,B',C,D,coast,fr⟩ S=0 then (dP ⟨L,lim,mode,A,B',C,D,coast,fr⟩ S,eG (dP ⟨L,lim,mode,A,B',C,D,coast,fr⟩ S).mode.toNat) else (⟨L,lim,mode,A,B',C,D,coast,fr⟩,gm (ei ⟨L,lim,mode,A,B',C,D,coast,fr⟩ S).toNat)):=yz rfl;have hsp:=mr ⟨L,lim,mode,A,B',C,D,coast,fr⟩ S;have hmo:=xm ⟨L,lim,mode,A,B',C,D,coast,fr⟩ S;generalize dD ⟨L,lim,mode,A,B',C,D,coast,fr⟩ S=R at *;generalize ei ⟨L,lim,mode,A,B',C,D,coast,fr⟩ S=code at *;generalize dP ⟨L,lim,mode,A,B',C,D,coast,fr⟩ S=t2 at *;obtain⟨L2,l2,m2,A2,B2,C2,D2,o2,f2⟩:=t2;dsimp only at hmo;clear hC0 hC hE;have d0:=fR (yy HD);go_enter Tryz.func110,Tryz.ntmps110;go_wp2_with fail;refine(yy cL).mono ?_;rintro e W1 ⟨⟨a2,cap2,rfl,hC2⟩,hx⟩;clear d0 cL;have hal:(w.alloc (.cells #[.slice a L.length cap,J Z lim,J Z mode,J Z A,J Z B',J Z C,J Z D,J Z coast,J Z fr,J Z u1,J Z u2,J Z u3,J Z u4] 61)).heap.size=w.heap.size+1:=by simp
 have hy:=an W1 (.cells #[.slice a2 L2.length cap2,J Z l2,J Z m2,J Z A2,J Z B2,J Z C2,J Z D2,J Z o2,J Z f2,J Z code] 47);have HO:=yz (aq W1 [.slice a2 L2.length cap2,J Z l2,J Z m2,J Z A2,J Z B2,J Z C2,J Z D2,J Z o2,J Z f2,J Z code] 47);have HD1:=aQ HD hx hy
 have HC1:=yz ((dm hC2 (show B≤(w.alloc (.cells #[.slice a L.length cap,J Z lim,J Z mode,J Z A,J Z B',J Z C,J Z D,J Z coast,J Z fr,J Z u1,J Z u2,J Z u3,J Z u4] 61)).heap.size by have:=(yy HZ).size;omega)).kept (row:=none) (aV hy) (by
  rcases hC2.2 with ⟨h1,_⟩ | ⟨g,c',cur,e,_⟩
  ·rw[h1];exact .inl rfl
  ·rw[e];exact .inr (fun h=>by cases h)))
 have HF:Hid (∀x,a2=some x→x.block≠w.heap.size):=yz (fun x e=>by have:=(ck hC2 x e).1;omega);have HB1:=ax (ax HZ hx) hy;have hob:w.heap.size<W1.heap.size:=by have:=hx.size;omega
 clear hx hy hC2 HZ HD hal;go_upto_region 2 with fail;generalize W1.alloc (.cells #[.slice a2 L2.length cap2,J Z l2,J Z m2,J Z A2,J Z B2,J Z C2,J Z D2,J Z o2,J Z f2,J Z code] 47)=W3 at *;generalize W1.heap.size=ob at *;have e0:=(yy HD1).cell 0 _ rfl;have z0:=(yy HD1).free 0;have y0:=(yy HO).cell 0 _ rfl;have e1:=(yy HD1).cell 1 _ rfl;have z1:=(yy HD1).free 1;have y1:=(yy HO).cell 1 _ rfl;have e2:=(yy HD1).cell 2 _ rfl;have z2:=(yy HD1).free 2;have y2:=(yy HO).cell 2 _ rfl;have e3:=(yy HD1).cell 3 _ rfl;have z3:=(yy HD1).free 3;have y3:=(yy HO).cell 3 _ rfl;have e4:=(yy HD1).cell 4 _ rfl;have z4:=(yy HD1).free 4;have y4:=(yy HO).cell 4 _ rfl;have e5:=(yy HD1).cell 5 _ rfl;have z5:=(yy HD1).free 5;have y5:=(yy HO).cell 5 _ rfl;have e6:=(yy HD1).cell 6 _ rfl;have z6:=(yy HD1).free 6;have y6:=(yy HO).cell 6 _ rfl;have e7:=(yy HD1).cell 7 _ rfl;have z7:=(yy HD1).free 7;have y7:=(yy HO).cell 7 _ rfl;have e8:=(yy HD1).cell 8 _ rfl;have z8:=(yy HD1).free 8;have y8:=(yy HO).cell 8 _ rfl;go_upto_region 3 with fail;have HD2:=yz (oj (yy HD1) (.slice a2 L2.length cap2) (J Z l2) (J Z m2) (J Z A2) (J Z B2) (J Z C2) (J Z D2) (J Z o2) (J Z f2));have hg:=mj W3 w.heap.size (.slice a2 L2.length cap2) (J Z l2) (J Z m2) (J Z A2) (J Z B2) (J Z C2) (J Z D2) (J Z o2) (J Z f2);have HO2:=yz (Blk.grown (yy HO) hg (fun e=>by have:=Option.some.inj e;omega));have HC2:Hid (aC _ B L2 a2 cap2):=yz (dH (yy HC1) hg (yy HF));have HB2:=yz (gF (yy HB1) hg (Nat.le_refl _));clear hg HD1 HO HC1 HB1 e0 z0 y0 e1 z1 y1 e2 z2 y2 e3 z3 y3 e4 z4 y4 e5 z5 y5 e6 z6 y6 e7 z7 y7 e8 z8 y8;generalize (((((((((W3.setCell ⟨w.heap.size,0,none⟩ (.slice a2 L2.length cap2)).setCell ⟨w.heap.size,1,none⟩ (J Z l2)).setCell ⟨w.heap.size,2,none⟩ (J Z m2)).setCell ⟨w.heap.size,3,none⟩ (J Z A2)).setCell ⟨w.heap.size,4,none⟩ (J Z B2)).setCell ⟨w.heap.size,5,none⟩ (J Z C2)).setCell ⟨w.heap.size,6,none⟩ (J Z D2)).setCell ⟨w.heap.size,7,none⟩ (J Z o2)).setCell ⟨w.heap.size,8,none⟩ (J Z f2))=W4 at *;have hw4:w.heap.size<W4.heap.size:=(yy HD2).lt;have ho4:ob<W4.heap.size:=(yy HO2).lt;have HKS:Hid (∀w':World,Below W4.heap.size W4 w'→(w'.cell? ⟨w.heap.size,0,none⟩=some (.slice a2 L2.length cap2)∧w'.cell? ⟨w.heap.size,1,none⟩=some (J Z l2)∧w'.cell? ⟨w.heap.size,2,none⟩=some (J Z m2)∧w'.cell? ⟨w.heap.size,3,none⟩=some (J Z A2)∧w'.cell? ⟨w.heap.size,4,none⟩=some (J Z B2)∧w'.cell? ⟨w.heap.size,5,none⟩=some (J Z C2)∧w'.cell? ⟨w.heap.size,6,none⟩=some (J Z D2)∧w'.cell? ⟨w.heap.size,7,none⟩=some (J Z o2)∧w'.cell? ⟨w.heap.size,8,none⟩=some (J Z f2)∧w'.cell? ⟨w.heap.size,9,none⟩=some (J Z u1)∧w'.cell? ⟨w.heap.size,10,none⟩=some (J Z u2)∧w'.cell? ⟨w.heap.size,11,none⟩=some (J Z u3)∧w'.cell? ⟨w.heap.size,12,none⟩=some (J Z u4))∧w'.cell? ⟨ob,9,none⟩=some (J Z code)):=yz (fun w' h=>⟨⟨by rw[h.cell hw4];exact(yy HD2).cell 0 _ rfl,by rw[h.cell hw4];exact(yy HD2).cell 1 _ rfl,by rw[h.cell hw4];exact(yy HD2).cell 2 _ rfl,by rw[h.cell hw4];exact(yy HD2).cell 3 _ rfl,by rw[h.cell hw4];exact(yy HD2).cell 4 _ rfl,by rw[h.cell hw4];exact(yy HD2).cell 5 _ rfl,by rw[h.cell hw4];exact(yy HD2).cell 6 _ rfl,by rw[h.cell hw4];exact(yy HD2).cell 7 _ rfl,by rw[h.cell hw4];exact(yy HD2).cell 8 _ rfl,by rw[h.cell hw4];exact(yy HD2).cell 9 _ rfl,by rw[h.cell hw4];exact(yy HD2).cell 10 _ rfl,by rw[h.cell hw4];exact(yy HD2).cell 11 _ rfl,by rw[h.cell hw4];exact(yy HD2).cell 12 _ rfl⟩,by rw[h.cell ho4];exact(yy HO2).cell 9 _ rfl⟩);obtain⟨m,rfl⟩:=Int.eq_ofNat_of_zero_le hmo.1;have hzd:=ec (n:=m) (by omega);have HE4:=ap HE (yy HB2);have cD:=yz (fun (W:World) h=>jR m W (by omega) h);rw[Int.toNat_natCast]at HR;generalize eG m=xd at *;refine wp_region_held_drew (S:=(fun w'=>(w'.cell? ⟨w.heap.size,0,none⟩=some (.slice a2 L2.length cap2)∧w'.cell? ⟨w.heap.size,1,none⟩=some (J Z l2)∧w'.cell? ⟨w.heap.size,2,none⟩=some (J Z (m:Int))∧w'.cell? ⟨w.heap.size,3,none⟩=some (J Z A2)∧w'.cell? ⟨w.heap.size,4,none⟩=some (J Z B2)∧w'.cell? ⟨w.heap.size,5,none⟩=some (J Z C2)∧w'.cell? ⟨w.heap.size,6,none⟩=some (J Z D2)∧w'.cell? ⟨w.heap.size,7,none⟩=some (J Z o2)∧w'.cell? ⟨w.heap.size,8,none⟩=some (J Z f2)∧w'.cell? ⟨w.heap.size,9,none⟩=some (J Z u1)∧w'.cell? ⟨w.heap.size,10,none⟩=some (J Z u2)∧w'.cell? ⟨w.heap.size,11,none⟩=some (J Z u3)∧w'.cell? ⟨w.heap.size,12,none⟩=some (J Z u4))∧w'.cell? ⟨ob,9,none⟩=some (J Z code))) (by kernel_rfl) (yy HKS W4 (Below.refl _ _)) (fun hHeld=>?_);refine ac 0 rfl ?_;try simp only[Act.put,ah,ai,aj]
 refine ac 1 rfl ?_;try simp only[Act.put,ah,ai,aj]
 refine ac 2 rfl ?_;try simp only[Act.put,ah,ai,aj]
 refine ac 3 rfl ?_;try simp only[Act.put,ah,ai,aj]
 refine ac 4 rfl ?_;try simp only[Act.put,ah,ai,aj]
 refine ac 5 rfl ?_;try simp only[Act.put,ah,ai,aj]
 refine af 6 rfl fun K hK=>?_;go_simp;refine((yy cD) W4.drew ((yy HE4).kept (Below.refl _ _).drew).2).mono ?_;rintro e V ⟨rfl,hx⟩;have HV:Hid (Below W4.heap.size W4 V):=yz ((Below.refl W4.heap.size W4).drew.trans hx);clear hx;refine hK.out _ _ (yy HKS _ (yy HV)) (fun hHeld1=>?_);clear hK K hHeld;refine af 7 rfl fun K hK=>?_;go_simp;have HW5:Hid (gA (V.alloc (.cells #[.string xd] 9)) V.heap.size [xd]):=yz (aq V [.string xd] 9);have HV5:=yz (ak (yy HV) (an V (.cells #[.string xd] 9)));refine hK.out _ _ (yy HKS _ (yy HV5)) (fun hHeld2=>?_);clear hK K hHeld1;generalize V.alloc (.cells #[.string xd] 9)=W5 at *;generalize V.heap.size=wb at *;clear HV;have HAB:=ax HB2 (yy HV5);have HC5:=ap HC2 (yy HV5);by_cases hc:code=0
 ·subst hc;rw[if_pos rfl]at HR;refine af 8 rfl fun K hK=>?_;go_simp;refine(fs a2 L2.length cap2 l2 (m:Int) A2 B2 C2 D2 o2 f2 u1 u2 u3 u4 (some ⟨wb,0,none⟩) 1 1 W5).mono ?_;rintro e V6 ⟨rfl,hx⟩;have HV6:=ax HV5 hx
  have HA:Hid (Ans V6 B (⟨L,lim,mode,A,B',C,D,coast,fr⟩,(u1,u2,u3,u4)) ((R.1,(u1,u2,u3,u4)),R.2) (.returned (.iface 99 (.agg #[.slice a2 L2.length cap2,J Z l2,J Z (m:Int),J Z A2,J Z B2,J Z C2,J Z D2,J Z o2,J Z f2,J Z u1,J Z u2,J Z u3,J Z u4,.slice (some ⟨wb,0,none⟩) 1 1])))):=yz (by
   rw[yy HR]
   exact .inr ⟨a2,cap2,wb,[xd],rfl,aC.kept (yy HC5) hx,(yy HW5).kept hx,by simp,by intro x hx;rw[List.mem_singleton]at hx;subst hx;omega,lu _ _⟩)
  have HB6:=ax HAB hx;clear hx;refine hK.out _ _ (yy HKS _ (yy HV6)) (fun hHeld3=>?_);clear hK K hHeld2;refine af 9 rfl fun K hK=>?_;go_simp;refine hK.out _ _ (yy HKS _ (yy HV6)) (fun hHeld4=>?_);clear hK K hHeld3;refine wpAnyH_done (by kernel_rfl) ?_ _;clear hHeld4;go_wp2_with fail;go_ret;exact⟨yy HA,yy HB6⟩
 ·obtain⟨k,rfl⟩:=Int.eq_ofNat_of_zero_le hsp.1;have hc':(k:Int)≠0:=hc;rw[if_neg hc',Int.toNat_natCast]at HR;refine af 8 rfl fun K hK=>?_;go_simp;refine(gZ a2 L2.length cap2 l2 (m:Int) A2 B2 C2 D2 o2 f2 u1 u2 u3 u4 (k:Int) (some ⟨wb,0,none⟩) 1 1 W5 hc').mono ?_;rintro e V6 ⟨rfl,hx⟩;have HV6:=ax HV5 hx
  have HA:Hid (Ans V6 B (⟨L,lim,mode,A,B',C,D,coast,fr⟩,(u1,u2,u3,u4)) ((R.1,(u1,u2,u3,u4)),R.2) (.returned (.iface 178 (.agg #[J Z (k:Int)])))):=yz (by
   rw[yy HR]
   exact .inl ⟨k,by omega,by omega,rfl,rfl⟩)
  have HB6:=ax HAB hx;clear hx;refine hK.out _ _ (yy HKS _ (yy HV6)) (fun hHeld3=>?_);clear hK K hHeld2;refine af 9 rfl fun K hK=>?_;go_simp;refine hK.out _ _ (yy HKS _ (yy HV6)) (fun hHeld4=>?_);clear hK K hHeld3;refine wpAnyH_done (by kernel_rfl) ?_ _;clear hHeld4;go_wp2_with fail;go_ret;exact⟨yy HA,yy HB6⟩
theorem yA(w:World)(B:Nat)(t:Tk)(u:U4)(a:Option Addr)(cap:Nat)(p:Addr)(tx:ByteArray)(n:Int)(hk:aH t=true)(hB:B≤w.heap.size)(hC:aC w B t.L a cap)(hE:jK p w):
  Calls Tryz.prog 87 #[.agg #[.slice a t.L.length cap,J Z t.lim,J Z t.mode,J Z t.A,J Z t.B,J Z t.C,J Z t.D,J Z t.coast,J Z t.fr,J Z u.1,J Z u.2.1,J Z u.2.2.1,J Z u.2.2.2],.agg #[.string tx,J Z n]] w fun e w'=>Ans w' B (t,u) (((dD t []).1,u),(dD t []).2) e∧Below w.heap.size w w':=by
 have HZ:=yz (aX w (.cells #[.slice a t.L.length cap,J Z t.lim,J Z t.mode,J Z t.A,J Z t.B,J Z t.C,J Z t.D,J Z t.coast,J Z t.fr,J Z u.1,J Z u.2.1,J Z u.2.2.1,J Z u.2.2.2] 61) (.cells #[.string tx,J Z n] 90));have cL:=yz (td _ B t u a cap p [] none 0 (by decide) hk (Nat.le_trans hB (yy HZ).size) (hC.kept (yy HZ)) (hE.kept (yy HZ)) (.inl rfl) (fun y e=>by cases e) (by decide) (by decide));generalize dD t []=R at *;obtain⟨u1,u2,u3,u4⟩:=u;obtain⟨L,lim,mode,A,B',C,D,coast,fr⟩:=t;dsimp only at cL HZ ⊢;have HD:=yz ((aq w [.slice a L.length cap,J Z lim,J Z mode,J Z A,J Z B',J Z C,J Z D,J Z coast,J Z fr,J Z u1,J Z u2,J Z u3,J Z u4] 61).alloc (.cells #[.string tx,J Z n] 90));clear hC hE hk;have d0:=Co (yy HD);go_enter Tryz.func87,Tryz.ntmps87;go_wp2_with fail;refine(yy cL).mono ?_;rintro e W1 ⟨hA,hx⟩;obtain⟨v,rfl⟩:=hA.ret;have HA:=yz hA;have HB1:=ax HZ hx;clear hx hA d0;go_wp2_with fail;go_ret;exact⟨yy HA,yy HB1⟩
end
section
open Go.RowKit Go.Deep Go.ChangeShapes
theorem BH:(Rows.laid_internal_strconv_uint64pow10:DataW Unit)=Lib.tabData .u64 Lib.pow10Tab:=by kernel_rfl
theorem BI:(Tryz.prog.globals[4]?).map (·.type)=some 256:=by kernel_rfl
theorem FL{W:World}(h:laidMetH Tryz.prog hZ W):Tab W:=by
 have h':laidMet Tryz.prog hZ W:=h;obtain⟨ps,⟨g',t',cs,fuel,p,q,hg',ht',hvar,hd,_,_⟩,_⟩:=fu (fu h');rw[BH]at hd;obtain rfl:=Option.some.inj (tY.symm.trans hg');obtain rfl:=Option.some.inj (BI.symm.trans ht');show Lib.TabIs _ _ _ _ _;unfold Lib.TabIs;rw[hvar,←Lib.cells_of_tab Tryz.underlying256 Tryz.underlying64 (by kernel_rfl) (by kernel_rfl) hd]
end
end Go.Proofs.YtdchjcadhlkpfaaGreatDoor
