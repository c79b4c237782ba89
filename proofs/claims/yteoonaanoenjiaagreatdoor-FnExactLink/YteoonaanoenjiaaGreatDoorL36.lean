/- Several texts in one: BlF. -/
import Derived.Test.YteoonaanoenjiaaGreatDoorL35
namespace Go.Proofs.YteoonaanoenjiaaGreatDoor
set_option linter.unusedVariables false
set_option linter.unusedSimpArgs false
set_option maxRecDepth 100000
set_option maxHeartbeats 8000000
section
open Go.Value renaming int → J
open Go.IntKind renaming i64 → Z
open Go.RowKit Go.Sort
theorem Fa:(Tryz.prog.info? 284).map (fun i=>(i.zero,i.size,i.bytes))=some (some (.agg #[J Z 0,J Z 0]),2,16):=by kernel_rfl
theorem Ee(f:Fr)(s:(Nat→Bool)×List Nat)(x y:Int):(cq f s x y).2.length≤s.2.length+1:=by
 unfold cq;split
 ·simp
 ·omega
theorem jV(f:Fr)(s:(Nat→Bool)×List Nat)(c r:Nat):∀m,(bD f s c r m).2.length≤s.2.length+m
 | 0=>Nat.le_refl _
 | m+1=>by
  have h1:=jV f s c r m;have h2:=Ee f (bD f s c r m) (EC c m) (ED r m);show (cq f (bD f s c r m) (EC c m) (ED r m)).2.length≤_;omega
theorem lS(a b c d e f g h:Int)(m:Nat)(W:World)(x y:Int)(hm:(m=0∧x=a∧y=b)∨(m=1∧x=c∧y=d)∨(m=2∧x=e∧y=f)∨(m=3∧x=g∧y=h)):
  (Instr.index 300 (.agg #[J Z a,J Z b,J Z c,J Z d,J Z e,J Z f,J Z g,J Z h]) (J Z (m:Int))).run Tryz.prog W=.ok (.agg #[J Z x,J Z y]) W:=by
 rcases hm with ⟨rfl,rfl,rfl⟩ | ⟨rfl,rfl,rfl⟩ | ⟨rfl,rfl,rfl⟩ | ⟨rfl,rfl,rfl⟩<;>kernel_rfl
structure cu (w wx:World) (fb lb tb wd ht:Nat) (s:ByteArray) (lv:Int) (T:Nat→Bool) (v:Value) (A:List Nat):Prop where
 fr:GQ wx fb wd ht s
 lev:Blk wx lb [J Z lv] 2
 taken:cg wx tb wd ht T
 found:wx.ownsRow (w.heap.size+1) 284 2 v A.length (mh wd A)
 grown:w.grownBy wx (some tb)
variable {s:ByteArray} {fb lb tb:Nat} {T:Nat→Bool} {v:Value} {w wx wy:World}
theorem grownK{row:Option Nat}(h:w.grownBy wx row)(hB:Below wx.heap.size wx wy):w.grownBy wy row:=
 ⟨by rw[hB.os];exact h.os,by rw[hB.tape];exact h.tape,by rw[hB.output];exact h.output,Nat.le_trans h.size hB.size,fun k hk hne=>by rw[hB.block k (Nat.lt_of_lt_of_le hk h.size)];exact h.block k hk hne⟩
theorem cu.kept{wd ht:Nat}{lv:Int}{A:List Nat}(h:cu w wx fb lb tb wd ht s lv T v A)(hB:Below wx.heap.size wx wy):cu w wy fb lb tb wd ht s lv T v A:=
 ⟨Blk.kept h.fr hB,h.lev.kept hB,h.taken.kept hB,aW h.found hB,grownK h.grown hB⟩
theorem cu.took{wd ht:Nat}{lv:Int}{T2:Nat→Bool}{A:List Nat}(h:cu w wx fb lb tb wd ht s lv T v A)(hg:wx.grownBy wy (some tb))(ht2:cg wy tb wd ht T2)(h1:fb≠tb)(h2:lb≠tb)(h3:tb<w.heap.size):cu w wy fb lb tb wd ht s lv T2 v A:=by
 refine⟨Blk.grown h.fr hg (fun e=>h1 (Option.some.inj e)),h.lev.grown hg (fun e=>h2 (Option.some.inj e)),ht2,h.found.kept hg ?_,⟨hg.os.trans h.grown.os,hg.tape.trans h.grown.tape,hg.output.trans h.grown.output,Nat.le_trans h.grown.size hg.size,fun k hk hne=>by rw[hg.block k (Nat.lt_of_lt_of_le hk h.grown.size) hne];exact h.grown.block k hk hne⟩⟩;cases hv:v.ownBlock with
 | none=>exact .inl rfl
 | some z=>exact .inr (fun e=>by have:=(h.found.lt z hv).1;have:=Option.some.inj e;omega)
theorem cu.appended{wd ht q:Nat}{lv:Int}{v7:Value}{A:List Nat}{xs:List Value}(h:cu w wx fb lb tb wd ht s lv T v A)(hg:wx.grownBy wy v.ownBlock)(ho:wy.ownsRow (w.heap.size+1) 284 2 v7 (A.length+1) (mh wd A ++ xs))(hxs:FR wd q=xs)(h1:fb<w.heap.size)(h2:lb<w.heap.size)(h3:tb<w.heap.size):cu w wy fb lb tb wd ht s lv T v7 (A ++ [q]):=by
 have ne:∀b,b<w.heap.size+1→some b≠v.ownBlock:=fun b hb e=>by have:=(h.found.lt b e.symm).1;omega
 obtain⟨g,hr,hgg⟩:=h.taken;refine⟨Blk.grown h.fr hg (ne _ (by omega)),h.lev.grown hg (ne _ (by omega)),⟨g,hr.grown hg (ne _ (by omega)),hgg⟩,?_,⟨hg.os.trans h.grown.os,hg.tape.trans h.grown.tape,hg.output.trans h.grown.output,Nat.le_trans h.grown.size hg.size,fun k hk hne=>by rw[hg.block k (Nat.lt_of_lt_of_le hk h.grown.size) (ne k (by omega))];exact h.grown.block k hk hne⟩⟩;rw[FT,List.length_append];have e:mh wd [q]=xs:=by unfold mh;simp[hxs]
 rw[e];exact ho
theorem xp(x y:Nat)(fb lb tb wd ht:Nat)(s:ByteArray)(lv:Int)(T:Nat→Bool)(w:World)(hw:wd≤16)(hh:ht≤12)(hs:s.size=wd*ht)(hx:x<wd)(hy:y<ht)(hT0:T (y*wd+x)=false)(n1:fb≠tb)(n2:lb≠tb)(hF:GQ w fb wd ht s)(hL:Blk w lb [J Z lv] 2)(hT:cg w tb wd ht T):
  Calls Tryz.prog 212 #[.agg #[J Z x,J Z y],.func (.func 207) #[] #[.pointer (some ⟨fb,0,none⟩),.pointer (some ⟨lb,0,none⟩),.pointer (some ⟨tb,0,none⟩)],.func (.func 210) #[] #[.pointer (some ⟨tb,0,none⟩)]] w fun e w'=>∃v,e=.returned v∧cu w w' fb lb tb wd ht s lv (fN (ic wd ht s lv) T (y*wd+x)).1 v (fN (ic wd ht s lv) T (y*wd+x)).2:=by
 obtain⟨i0,hinf,hz0,hz1,hz2⟩:=info_parts Fa;have hm8:400≤maxLen:=by decide +kernel
 have lf:=Blk.lt hF;have ll:=hL.lt;have lt:=hT.lt;have HSZ:=yz hs;have hn192:s.size≤192:=by rw[hs];exact Nat.mul_le_mul hw hh
 have hi:y*wd+x<s.size:=by
  rw[hs];have:=Nat.mul_le_mul_left wd (show y+1≤ht by omega);rw[Nat.mul_add,Nat.mul_one,Nat.mul_comm wd y]at this;omega
 have hpx:FR wd (y*wd+x)=[J Z (x:Int),J Z (y:Int)]:=sz (ht:=ht) (x:=(x:Int)) (y:=(y:Int)) (decide_eq_true (by omega));have A0:=ap w [J Z (x:Int),J Z (y:Int)] 284;have B0:=ak w (.cells #[J Z (x:Int),J Z (y:Int)] 284);have F0:=Blk.kept hF B0;have L0:=Blk.kept hL B0;have T0:=hT.kept B0;have G0:w.grownBy _ (some tb):=⟨B0.os,B0.tape,B0.output,B0.size,fun k hk _=>B0.block k hk⟩
 have hz:(w.alloc (.cells #[J Z (x:Int),J Z (y:Int)] 284)).heap.size=w.heap.size+1:=by simp
 clear hF hL hT B0 hs;go_enter Tryz.func212,Tryz.ntmps212;go_wp2_with fail;generalize w.alloc (.cells #[J Z (x:Int),J Z (y:Int)] 284)=W0 at A0 F0 L0 T0 G0 hz ⊢;refine(zr x y tb wd ht T W0 hw hh hx hy T0).mono ?_;rintro e W1 ⟨rfl,hT1,hg1⟩;have hz1':=hg1.size;have A1:=A0.grown hg1 (by simp;omega);have F1:=Blk.grown F0 hg1 (by simp;omega);have L1:=L0.grown hg1 (by simp;omega);have G1:w.grownBy W1 (some tb):=⟨hg1.os.trans G0.os,hg1.tape.trans G0.tape,hg1.output.trans G0.output,Nat.le_trans G0.size hg1.size,fun k hk hne=>by rw[hg1.block k (Nat.lt_of_lt_of_le hk G0.size) hne];exact G0.block k hk hne⟩
 have c0:=A1.cell 0 _ rfl;have c1:=A1.cell 1 _ rfl;have Z1:=ak W1 (.cells #[J Z (x:Int),J Z (y:Int)] 284);obtain⟨i,hie⟩:∃i,i=y*wd+x:=⟨_,rfl⟩
 have HIe:=yz hie;rw[←hie]at hT1 hi hpx hT0
 have HO:(W1.alloc (.cells #[J Z (x:Int),J Z (y:Int)] 284)).ownsRow (w.heap.size+1) 284 2 (.slice (some ⟨W1.heap.size,0,none⟩) 1 1) 1 (mh wd [i]):=by
  have h:=World.ownsRow_lit (base:=w.heap.size+1) (e:=284) (size:=2) W1 #[J Z (x:Int),J Z (y:Int)] 1 (by omega) (by omega) rfl;have e:mh wd [i]=[J Z (x:Int),J Z (y:Int)]:=by unfold mh;simp[hpx]
  rw[e];exact h
 have ST0:Hid (cu w (W1.alloc (.cells #[J Z (x:Int),J Z (y:Int)] 284)) fb lb tb wd ht s lv (mark T i) (.slice (some ⟨W1.heap.size,0,none⟩) 1 1) [i]):=yz ⟨Blk.kept F1 Z1,L1.kept Z1,hT1.kept Z1,HO,grownK G1 Z1⟩;clear hie A0 F0 L0 T0 G0 A1 F1 L1 G1 Z1 HO hT1 hg1 hpx;generalize hfe:ic wd ht s lv=f;have HF:=yz hfe;clear hfe;have hfn:f.n=s.size:=by rw[←yx HF];exact(yx HSZ).symm
 have HFN:=yz hfn;clear hfn;have HGood:Hid (∀k,tu f (cnt T f.n) (aV f T i k)):=yz (fun k=>ks (by rw[yx HFN];exact hi) hT0 k);have HLen:Hid (∀k,(aV f T i k).2.length≤s.size):=yz (fun k=>by have:=(yx HGood k).len;rw[yx HFN]at this;omega);have HT0:=yz hT0;clear hT0;go_wp2_with fail;clear c0 c1;go_loopw [7,8] (fun v kk wr=>∃k:Nat,k≤(aV f T i k).2.length∧kk=J Z k∧Hid (cu w wr fb lb tb wd ht s lv (aV f T i k).1 v (aV f T i k).2)) (fun _ kk _=>s.size-(intOf kk).toNat)
 case atStart=>exact⟨0,Nat.zero_le _,rfl,ST0⟩
 case round=>
  clear ST0;obtain⟨k,hk,rfl,HST⟩:=hrel;have hkl:=yx HLen k;by_cases hkn:k<(aV f T i k).2.length
  ·have hpm:(aV f T i k).2.getD k 0∈(aV f T i k).2:=by rw[List.getD,List.getElem?_eq_getElem hkn];exact List.getElem_mem hkn
   have hpl:=(yx HGood k).lies _ hpm;have HNX:Hid (aV f T i (k+1)=fq f (aV f T i k) (jA f ((aV f T i k).2.getD k 0))):=yz (by rw[aV,if_pos hkn]);have HPre:=yz (uE f T i k);obtain⟨e0,e1⟩:=BX wd (aV f T i k).2 k hkn;obtain⟨a7,cap7,hv7⟩:=bM (yx HST).found;subst hv7;have hfd:=(yx HST).found
   obtain⟨g7,hg7⟩:∃g,a7=some ⟨g,0,none⟩:=by
    rcases hfd.2 with ⟨h1,h0⟩ | ⟨g,cap,cur,h1,_⟩
    ·omega
    ·injection h1 with h1 _ _;exact⟨g,h1⟩
   subst hg7;have c0:wr.cell? ⟨g7,k*2,none⟩=_:=(hfd.cellAt (k*2) (by omega)).trans e0;have c1:wr.cell? ⟨g7,k*2+1,none⟩=_:=(hfd.cellAt (k*2+1) (by omega)).trans e1;clear hfd e0 e1 hpm;generalize hGe:aV f T i k=G at *;clear hGe;obtain⟨T1,A⟩:=G;simp only at *;generalize A.getD k 0=p at *;have HSide:=yz (Gg hpl (T1,A));obtain⟨c,hc⟩:∃c,c=p % wd:=⟨_,rfl⟩
   obtain⟨r,hr⟩:∃r,r=p / wd:=⟨_,rfl⟩
   rw[←hc]at c0;rw[←hr]at c1
   have HSide2:Hid (bD f (T1,A) c r 4=aV f T i (k+1)):=yz (by
    rw[yx HNX,←yx HSide,hc,hr,←yx HF];rfl)
   have hcl:c<wd:=by rw[hc];exact Nat.mod_lt _ (by omega)
   have hrl:r<ht:=by
    rw[hr];rw[yx HFN,yx HSZ]at hpl;exact Nat.div_lt_of_lt_mul hpl
   clear hc hr HSide HNX hpl;have hk2:(k:Int)<(A.length:Int):=by omega
   go_wp2_with fail;refine(zM c r _ (by omega) (by omega)).mono ?_;rintro e W2 ⟨rfl,hx2⟩;have HST2:Hid (cu w W2 fb lb tb wd ht s lv (bD f (T1,A) c r 0).1 (.slice (some ⟨g7,0,none⟩) A.length cap7) (bD f (T1,A) c r 0).2):=an HST hx2;clear HST hx2 c0 c1;go_wp2_with fail;go_loopw [7,27] (fun v mm wr=>∃m:Nat,m≤4∧mm=J Z m∧Hid (cu w wr fb lb tb wd ht s lv (bD f (T1,A) c r m).1 v (bD f (T1,A) c r m).2)) (fun _ mm _=>4-(intOf mm).toNat)
   case atStart=>exact⟨0,by omega,rfl,HST2⟩
   case round=>
    clear HST2;obtain⟨m,hm,rfl,HST⟩:=hrel;have hpb:tb<wr.heap.size:=(yx HST).taken.lt;rcases(show m=0∨m=1∨m=2∨m=3∨m=4 by omega) with hm0 | hm1 | hm2 | hm3 | hm4
    ·subst hm0;have hix:∀W:World,(Instr.index 300 (.agg #[J Z ((c:Int)-1),J Z (r:Int),J Z ((c:Int)+1),J Z (r:Int),J Z (c:Int),J Z ((r:Int)-1),J Z (c:Int),J Z ((r:Int)+1)]) (J Z 0)).run Tryz.prog W=.ok (.agg #[J Z ((c:Int)-1),J Z ((r:Int))]) W:=fun W=>lS _ _ _ _ _ _ _ _ 0 W _ _ (by simp) ;have HS:Hid (bD f (T1,A) c r (0+1)=cq f (bD f (T1,A) c r 0) ((c:Int)-1) ((r:Int))):=yz rfl;have hsl:=jV f (T1,A) c r 0;simp only at hsl;generalize bD f (T1,A) c r 0=S2 at HST HS hsl;obtain⟨T2,A2⟩:=S2;simp only at HST hsl;have Z1:=ak wr (.cells #[J Z ((c:Int)-1),J Z ((r:Int))] 284);have P1:=ap wr [J Z ((c:Int)-1),J Z ((r:Int))] 284;have ST1:=(yx HST).kept Z1;clear Z1 HST;go_upto_region 9 with fail;generalize hWe:wr.alloc (.cells #[J Z ((c:Int)-1),J Z ((r:Int))] 284)=W3 at P1 ST1 ⊢;generalize hpe:wr.heap.size=pb at P1 ⊢;have hpb2:tb≠pb:=by omega
     clear hWe hpe;have hST:=yz ST1;have hP:=yz P1;have c0:=P1.cell 0 _ rfl;have c1:=P1.cell 1 _ rfl;clear ST1 P1;go_wp2_with fail;refine(nG ((c:Int)-1) ((r:Int)) fb lb tb wd ht s lv T2 _ hw hh (yx HSZ) (yx hST).fr (yx hST).lev (yx hST).taken).mono ?_;rintro e W4 ⟨rfl,hx4⟩;rw[ww,yx HF];have ST4:=an hST hx4;have P4:=an hP hx4;clear hST hP hx4 c0 c1;cases hl:tQ f T2 ((c:Int)-1) ((r:Int))
     ·have HS2:Hid (bD f (T1,A) c r (0+1)=(T2,A2)):=yz (by rw[yx HS];unfold cq;rw[if_neg (by simp[hl])]);have ST5:Hid (cu w W4 fb lb tb wd ht s lv (bD f (T1,A) c r (0+1)).1 u7 (bD f (T1,A) c r (0+1)).2):=yz (by rw[yx HS2];exact yx ST4);clear hl;go_wp2_with fail;go_roundw
      case rel=>exact⟨0+1,by omega,by go_num,ST5⟩
      case measure=>simp[intOf]<;>omega
     ·have hhold:=kx hl;have hhold2:eL wd ht ((c:Int)-1) ((r:Int))=true:=by rw[←yx HF]at hhold;exact hhold
      have HPx:=yz (sz hhold2);have HS2:Hid (bD f (T1,A) c r (0+1)=(mark T2 (((r:Int):Int).toNat*wd+((c:Int)-1:Int).toNat),A2 ++ [((r:Int):Int).toNat*wd+((c:Int)-1:Int).toNat])):=yz (by rw[yx HS];unfold cq;rw[if_pos hl,←yx HF];rfl);have cK:=yz (fun (W:World) hW=>og ((c:Int)-1) ((r:Int)) tb wd ht T2 W hw hh hhold2 hW);clear hl hhold hhold2;generalize hqe:((r:Int):Int).toNat*wd+((c:Int)-1:Int).toNat=q at *;clear hqe;have c0:=(yx P4).cell 0 _ rfl;have c1:=(yx P4).cell 1 _ rfl;go_wp2_with fail;refine(yx cK _ (yx ST4).taken).mono ?_;rintro e W5 ⟨rfl,hT5,hg5⟩;have ST5:=yz ((yx ST4).took hg5 hT5 n1 n2 lt);have P5:Hid (Blk W5 pb [J Z ((c:Int)-1),J Z ((r:Int))] 284):=yz ((yx P4).grown hg5 (fun e=>hpb2 (Option.some.inj e).symm));clear hT5 hg5 ST4 P4 c0 c1;have c0:=(yx P5).cell 0 _ rfl;have c1:=(yx P5).cell 1 _ rfl;have Z1:=ak W5 (.cells #[J Z ((c:Int)-1),J Z ((r:Int))] 284);have ST6:=(yx ST5).kept Z1;have hown:=ST6.found;have hz5:=(yx ST5).grown.size;clear Z1;go_wp2_with (at_builtin;refine wpList_append_own _ rfl _ _ 289 rfl (w.heap.size+1) 284 i0 (.agg #[J Z 0,J Z 0]) 2 16 Tryz.underlying289 hinf hz0 hz1 hz2 rfl (by decide) _ _ _ rfl hown ⟨W5.heap.size,0,none⟩ 1 1 [J Z ((c:Int)-1),J Z ((r:Int))] rfl rfl ?d2 (fun u hu=>by simp at hu;rcases hu with rfl | rfl<;>rfl) ?d3 ?d4 ?d5 ?_)
      case d2=>first | exact fun j u h=>h | exact fk _ _ _
      case d3=>omega
      case d4=>omega
      case d5=>first | (have:=hown.lt;have:=(yx P5).lt;omega) | (simp;have:=(yx P5).lt;omega)
      intro v7 V7 hown7 hgrow7 _;have ST7:Hid (cu w V7 fb lb tb wd ht s lv (bD f (T1,A) c r (0+1)).1 v7 (bD f (T1,A) c r (0+1)).2):=yz (by rw[yx HS2];exact ST6.appended hgrow7 hown7 (yx HPx) lf ll lt);clear hown7 hgrow7 hown ST6 c0 c1;go_wp2_with fail;go_roundw
      case rel=>exact⟨0+1,by omega,by go_num,ST7⟩
      case measure=>simp[intOf]<;>omega
    ·subst hm1;have hix:∀W:World,(Instr.index 300 (.agg #[J Z ((c:Int)-1),J Z (r:Int),J Z ((c:Int)+1),J Z (r:Int),J Z (c:Int),J Z ((r:Int)-1),J Z (c:Int),J Z ((r:Int)+1)]) (J Z 1)).run Tryz.prog W=.ok (.agg #[J Z ((c:Int)+1),J Z ((r:Int))]) W:=fun W=>lS _ _ _ _ _ _ _ _ 1 W _ _ (by simp) ;have HS:Hid (bD f (T1,A) c r (1+1)=cq f (bD f (T1,A) c r 1) ((c:Int)+1) ((r:Int))):=yz rfl;have hsl:=jV f (T1,A) c r 1;simp only at hsl;generalize bD f (T1,A) c r 1=S2 at HST HS hsl;obtain⟨T2,A2⟩:=S2;simp only at HST hsl;have Z1:=ak wr (.cells #[J Z ((c:Int)+1),J Z ((r:Int))] 284);have P1:=ap wr [J Z ((c:Int)+1),J Z ((r:Int))] 284;have ST1:=(yx HST).kept Z1;clear Z1 HST;go_upto_region 9 with fail;generalize hWe:wr.alloc (.cells #[J Z ((c:Int)+1),J Z ((r:Int))] 284)=W3 at P1 ST1 ⊢;generalize hpe:wr.heap.size=pb at P1 ⊢;have hpb2:tb≠pb:=by omega
     clear hWe hpe;have hST:=yz ST1;have hP:=yz P1;have c0:=P1.cell 0 _ rfl;have c1:=P1.cell 1 _ rfl;clear ST1 P1;go_wp2_with fail;refine(nG ((c:Int)+1) ((r:Int)) fb lb tb wd ht s lv T2 _ hw hh (yx HSZ) (yx hST).fr (yx hST).lev (yx hST).taken).mono ?_;rintro e W4 ⟨rfl,hx4⟩;rw[ww,yx HF];have ST4:=an hST hx4;have P4:=an hP hx4;clear hST hP hx4 c0 c1;cases hl:tQ f T2 ((c:Int)+1) ((r:Int))
     ·have HS2:Hid (bD f (T1,A) c r (1+1)=(T2,A2)):=yz (by rw[yx HS];unfold cq;rw[if_neg (by simp[hl])]);have ST5:Hid (cu w W4 fb lb tb wd ht s lv (bD f (T1,A) c r (1+1)).1 u7 (bD f (T1,A) c r (1+1)).2):=yz (by rw[yx HS2];exact yx ST4);clear hl;go_wp2_with fail;go_roundw
      case rel=>exact⟨1+1,by omega,by go_num,ST5⟩
      case measure=>simp[intOf]<;>omega
     ·have hhold:=kx hl;have hhold2:eL wd ht ((c:Int)+1) ((r:Int))=true:=by rw[←yx HF]at hhold;exact hhold
      have HPx:=yz (sz hhold2);have HS2:Hid (bD f (T1,A) c r (1+1)=(mark T2 (((r:Int):Int).toNat*wd+((c:Int)+1:Int).toNat),A2 ++ [((r:Int):Int).toNat*wd+((c:Int)+1:Int).toNat])):=yz (by rw[yx HS];unfold cq;rw[if_pos hl,←yx HF];rfl);have cK:=yz (fun (W:World) hW=>og ((c:Int)+1) ((r:Int)) tb wd ht T2 W hw hh hhold2 hW);clear hl hhold hhold2;generalize hqe:((r:Int):Int).toNat*wd+((c:Int)+1:Int).toNat=q at *;clear hqe;have c0:=(yx P4).cell 0 _ rfl;have c1:=(yx P4).cell 1 _ rfl;go_wp2_with fail;refine(yx cK _ (yx ST4).taken).mono ?_;rintro e W5 ⟨rfl,hT5,hg5⟩;have ST5:=yz ((yx ST4).took hg5 hT5 n1 n2 lt);have P5:Hid (Blk W5 pb [J Z ((c:Int)+1),J Z ((r:Int))] 284):=yz ((yx P4).grown hg5 (fun e=>hpb2 (Option.some.inj e).symm));clear hT5 hg5 ST4 P4 c0 c1;have c0:=(yx P5).cell 0 _ rfl;have c1:=(yx P5).cell 1 _ rfl;have Z1:=ak W5 (.cells #[J Z ((c:Int)+1),J Z ((r:Int))] 284);have ST6:=(yx ST5).kept Z1;have hown:=ST6.found;have hz5:=(yx ST5).grown.size;clear Z1;go_wp2_with (at_builtin;refine wpList_append_own _ rfl _ _ 289 rfl (w.heap.size+1) 284 i0 (.agg #[J Z 0,J Z 0]) 2 16 Tryz.underlying289 hinf hz0 hz1 hz2 rfl (by decide) _ _ _ rfl hown ⟨W5.heap.size,0,none⟩ 1 1 [J Z ((c:Int)+1),J Z ((r:Int))] rfl rfl ?d2 (fun u hu=>by simp at hu;rcases hu with rfl | rfl<;>rfl) ?d3 ?d4 ?d5 ?_)
      case d2=>first | exact fun j u h=>h | exact fk _ _ _
      case d3=>omega
      case d4=>omega
      case d5=>first | (have:=hown.lt;have:=(yx P5).lt;omega) | (simp;have:=(yx P5).lt;omega)
      intro v7 V7 hown7 hgrow7 _;have ST7:Hid (cu w V7 fb lb tb wd ht s lv (bD f (T1,A) c r (1+1)).1 v7 (bD f (T1,A) c r (1+1)).2):=yz (by rw[yx HS2];exact ST6.appended hgrow7 hown7 (yx HPx) lf ll lt);clear hown7 hgrow7 hown ST6 c0 c1;go_wp2_with fail;go_roundw
      case rel=>exact⟨1+1,by omega,by go_num,ST7⟩
      case measure=>simp[intOf]<;>omega
    ·subst hm2;have hix:∀W:World,(Instr.index 300 (.agg #[J Z ((c:Int)-1),J Z (r:Int),J Z ((c:Int)+1),J Z (r:Int),J Z (c:Int),J Z ((r:Int)-1),J Z (c:Int),J Z ((r:Int)+1)]) (J Z 2)).run Tryz.prog W=.ok (.agg #[J Z ((c:Int)),J Z ((r:Int)-1)]) W:=fun W=>lS _ _ _ _ _ _ _ _ 2 W _ _ (by simp) ;have HS:Hid (bD f (T1,A) c r (2+1)=cq f (bD f (T1,A) c r 2) ((c:Int)) ((r:Int)-1)):=yz rfl;have hsl:=jV f (T1,A) c r 2;simp only at hsl;generalize bD f (T1,A) c r 2=S2 at HST HS hsl;obtain⟨T2,A2⟩:=S2;simp only at HST hsl;have Z1:=ak wr (.cells #[J Z ((c:Int)),J Z ((r:Int)-1)] 284);have P1:=ap wr [J Z ((c:Int)),J Z ((r:Int)-1)] 284;have ST1:=(yx HST).kept Z1;clear Z1 HST;go_upto_region 9 with fail;generalize hWe:wr.alloc (.cells #[J Z ((c:Int)),J Z ((r:Int)-1)] 284)=W3 at P1 ST1 ⊢;generalize hpe:wr.heap.size=pb at P1 ⊢;have hpb2:tb≠pb:=by omega
     clear hWe hpe;have hST:=yz ST1;have hP:=yz P1;have c0:=P1.cell 0 _ rfl;have c1:=P1.cell 1 _ rfl;clear ST1 P1;go_wp2_with fail;refine(nG ((c:Int)) ((r:Int)-1) fb lb tb wd ht s lv T2 _ hw hh (yx HSZ) (yx hST).fr (yx hST).lev (yx hST).taken).mono ?_;rintro e W4 ⟨rfl,hx4⟩;rw[ww,yx HF];have ST4:=an hST hx4;have P4:=an hP hx4;clear hST hP hx4 c0 c1;cases hl:tQ f T2 ((c:Int)) ((r:Int)-1)
     ·have HS2:Hid (bD f (T1,A) c r (2+1)=(T2,A2)):=yz (by rw[yx HS];unfold cq;rw[if_neg (by simp[hl])]);have ST5:Hid (cu w W4 fb lb tb wd ht s lv (bD f (T1,A) c r (2+1)).1 u7 (bD f (T1,A) c r (2+1)).2):=yz (by rw[yx HS2];exact yx ST4);clear hl;go_wp2_with fail;go_roundw
      case rel=>exact⟨2+1,by omega,by go_num,ST5⟩
      case measure=>simp[intOf]<;>omega
     ·have hhold:=kx hl;have hhold2:eL wd ht ((c:Int)) ((r:Int)-1)=true:=by rw[←yx HF]at hhold;exact hhold
      have HPx:=yz (sz hhold2);have HS2:Hid (bD f (T1,A) c r (2+1)=(mark T2 (((r:Int)-1:Int).toNat*wd+((c:Int):Int).toNat),A2 ++ [((r:Int)-1:Int).toNat*wd+((c:Int):Int).toNat])):=yz (by rw[yx HS];unfold cq;rw[if_pos hl,←yx HF];rfl);have cK:=yz (fun (W:World) hW=>og ((c:Int)) ((r:Int)-1) tb wd ht T2 W hw hh hhold2 hW);clear hl hhold hhold2;generalize hqe:((r:Int)-1:Int).toNat*wd+((c:Int):Int).toNat=q at *;clear hqe;have c0:=(yx P4).cell 0 _ rfl;have c1:=(yx P4).cell 1 _ rfl;go_wp2_with fail;refine(yx cK _ (yx ST4).taken).mono ?_;rintro e W5 ⟨rfl,hT5,hg5⟩;have ST5:=yz ((yx ST4).took hg5 hT5 n1 n2 lt);have P5:Hid (Blk W5 pb [J Z ((c:Int)),J Z ((r:Int)-1)] 284):=yz ((yx P4).grown hg5 (fun e=>hpb2 (Option.some.inj e).symm));clear hT5 hg5 ST4 P4 c0 c1;have c0:=(yx P5).cell 0 _ rfl;have c1:=(yx P5).cell 1 _ rfl;have Z1:=ak W5 (.cells #[J Z ((c:Int)),J Z ((r:Int)-1)] 284);have ST6:=(yx ST5).kept Z1;have hown:=ST6.found;have hz5:=(yx ST5).grown.size;clear Z1;go_wp2_with (at_builtin;refine wpList_append_own _ rfl _ _ 289 rfl (w.heap.size+1) 284 i0 (.agg #[J Z 0,J Z 0]) 2 16 Tryz.underlying289 hinf hz0 hz1 hz2 rfl (by decide) _ _ _ rfl hown ⟨W5.heap.size,0,none⟩ 1 1 [J Z ((c:Int)),J Z ((r:Int)-1)] rfl rfl ?d2 (fun u hu=>by simp at hu;rcases hu with rfl | rfl<;>rfl) ?d3 ?d4 ?d5 ?_)
      case d2=>first | exact fun j u h=>h | exact fk _ _ _
      case d3=>omega
      case d4=>omega
      case d5=>first | (have:=hown.lt;have:=(yx P5).lt;omega) | (simp;have:=(yx P5).lt;omega)
      intro v7 V7 hown7 hgrow7 _;have ST7:Hid (cu w V7 fb lb tb wd ht s lv (bD f (T1,A) c r (2+1)).1 v7 (bD f (T1,A) c r (2+1)).2):=yz (by rw[yx HS2];exact ST6.appended hgrow7 hown7 (yx HPx) lf ll lt);clear hown7 hgrow7 hown ST6 c0 c1;go_wp2_with fail;go_roundw
      case rel=>exact⟨2+1,by omega,by go_num,ST7⟩
      case measure=>simp[intOf]<;>omega
    ·subst hm3;have hix:∀W:World,(Instr.index 300 (.agg #[J Z ((c:Int)-1),J Z (r:Int),J Z ((c:Int)+1),J Z (r:Int),J Z (c:Int),J Z ((r:Int)-1),J Z (c:Int),J Z ((r:Int)+1)]) (J Z 3)).run Tryz.prog W=.ok (.agg #[J Z ((c:Int)),J Z ((r:Int)+1)]) W:=fun W=>lS _ _ _ _ _ _ _ _ 3 W _ _ (by simp) ;have HS:Hid (bD f (T1,A) c r (3+1)=cq f (bD f (T1,A) c r 3) ((c:Int)) ((r:Int)+1)):=yz rfl;have hsl:=jV f (T1,A) c r 3;simp only at hsl;generalize bD f (T1,A) c r 3=S2 at HST HS hsl;obtain⟨T2,A2⟩:=S2;simp only at HST hsl;have Z1:=ak wr (.cells #[J Z ((c:Int)),J Z ((r:Int)+1)] 284);have P1:=ap wr [J Z ((c:Int)),J Z ((r:Int)+1)] 284;have ST1:=(yx HST).kept Z1;clear Z1 HST;go_upto_region 9 with fail;generalize hWe:wr.alloc (.cells #[J Z ((c:Int)),J Z ((r:Int)+1)] 284)=W3 at P1 ST1 ⊢;generalize hpe:wr.heap.size=pb at P1 ⊢;have hpb2:tb≠pb:=by omega
     clear hWe hpe;have hST:=yz ST1;have hP:=yz P1;have c0:=P1.cell 0 _ rfl;have c1:=P1.cell 1 _ rfl;clear ST1 P1;go_wp2_with fail;refine(nG ((c:Int)) ((r:Int)+1) fb lb tb wd ht s lv T2 _ hw hh (yx HSZ) (yx hST).fr (yx hST).lev (yx hST).taken).mono ?_;rintro e W4 ⟨rfl,hx4⟩;rw[ww,yx HF];have ST4:=an hST hx4;have P4:=an hP hx4;clear hST hP hx4 c0 c1;cases hl:tQ f T2 ((c:Int)) ((r:Int)+1)
     ·have HS2:Hid (bD f (T1,A) c r (3+1)=(T2,A2)):=yz (by rw[yx HS];unfold cq;rw[if_neg (by simp[hl])]);have ST5:Hid (cu w W4 fb lb tb wd ht s lv (bD f (T1,A) c r (3+1)).1 u7 (bD f (T1,A) c r (3+1)).2):=yz (by rw[yx HS2];exact yx ST4);clear hl;go_wp2_with fail;go_roundw
      case rel=>exact⟨3+1,by omega,by go_num,ST5⟩
      case measure=>simp[intOf]<;>omega
     ·have hhold:=kx hl;have hhold2:eL wd ht ((c:Int)) ((r:Int)+1)=true:=by rw[←yx HF]at hhold;exact hhold
      have HPx:=yz (sz hhold2);have HS2:Hid (bD f (T1,A) c r (3+1)=(mark T2 (((r:Int)+1:Int).toNat*wd+((c:Int):Int).toNat),A2 ++ [((r:Int)+1:Int).toNat*wd+((c:Int):Int).toNat])):=yz (by rw[yx HS];unfold cq;rw[if_pos hl,←yx HF];rfl);have cK:=yz (fun (W:World) hW=>og ((c:Int)) ((r:Int)+1) tb wd ht T2 W hw hh hhold2 hW);clear hl hhold hhold2;generalize hqe:((r:Int)+1:Int).toNat*wd+((c:Int):Int).toNat=q at *;clear hqe;have c0:=(yx P4).cell 0 _ rfl;have c1:=(yx P4).cell 1 _ rfl;go_wp2_with fail;refine(yx cK _ (yx ST4).taken).mono ?_;rintro e W5 ⟨rfl,hT5,hg5⟩;have ST5:=yz ((yx ST4).took hg5 hT5 n1 n2 lt);have P5:Hid (Blk W5 pb [J Z ((c:Int)),J Z ((r:Int)+1)] 284):=yz ((yx P4).grown hg5 (fun e=>hpb2 (Option.some.inj e).symm));clear hT5 hg5 ST4 P4 c0 c1;have c0:=(yx P5).cell 0 _ rfl;have c1:=(yx P5).cell 1 _ rfl;have Z1:=ak W5 (.cells #[J Z ((c:Int)),J Z ((r:Int)+1)] 284);have ST6:=(yx ST5).kept Z1;have hown:=ST6.found;have hz5:=(yx ST5).grown.size;clear Z1;go_wp2_with (at_builtin;refine wpList_append_own _ rfl _ _ 289 rfl (w.heap.size+1) 284 i0 (.agg #[J Z 0,J Z 0]) 2 16 Tryz.underlying289 hinf hz0 hz1 hz2 rfl (by decide) _ _ _ rfl hown ⟨W5.heap.size,0,none⟩ 1 1 [J Z ((c:Int)),J Z ((r:Int)+1)] rfl rfl ?d2 (fun u hu=>by simp at hu;rcases hu with rfl | rfl<;>rfl) ?d3 ?d4 ?d5 ?_)
      case d2=>first | exact fun j u h=>h | exact fk _ _ _
      case d3=>omega
      case d4=>omega
      case d5=>first | (have:=hown.lt;have:=(yx P5).lt;omega) | (simp;have:=(yx P5).lt;omega)
      intro v7 V7 hown7 hgrow7 _;have ST7:Hid (cu w V7 fb lb tb wd ht s lv (bD f (T1,A) c r (3+1)).1 v7 (bD f (T1,A) c r (3+1)).2):=yz (by rw[yx HS2];exact ST6.appended hgrow7 hown7 (yx HPx) lf ll lt);clear hown7 hgrow7 hown ST6 c0 c1;go_wp2_with fail;go_roundw
      case rel=>exact⟨3+1,by omega,by go_num,ST7⟩
      case measure=>simp[intOf]<;>omega
    ·subst hm4;rw[yx HSide2]at HST
     have hlen1:k+1≤(aV f T i (k+1)).2.length:=by
      have:=(yx HPre).length_le;omega
     go_wp2_with fail;go_roundw
     case rel=>exact⟨k+1,hlen1,by go_num,HST⟩
     case measure=>simp[intOf]<;>omega
  ·have hke:(aV f T i k).2.length≤k:=by omega
   have HEnd:Hid (aV f T i k=fN f T i):=yz (uo (by rw[yx HFN];exact hi) (yx HT0) hke (by rw[yx HFN];omega));have hkk:¬(k:Int)<((aV f T i k).2.length:Int):=by omega
   obtain⟨a7,cap7,hv7⟩:=bM (yx HST).found;subst hv7;go_wp2_with fail;go_ret;exact⟨_,rfl,by rw[yx HF,←yx HIe,←yx HEnd];exact yx HST⟩
end
end Go.Proofs.YteoonaanoenjiaaGreatDoor
