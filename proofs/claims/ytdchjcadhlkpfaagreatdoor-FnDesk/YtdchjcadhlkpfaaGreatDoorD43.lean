/- Several texts in one: DsP, DsQ, DsR, DsS, DnM, DnL. -/
import Derived.Lib.AppendStr
import Derived.Test.YtdchjcadhlkpfaaGreatDoorD42
namespace Go.Proofs.YtdchjcadhlkpfaaGreatDoor
set_option linter.unusedVariables false
set_option linter.unusedSimpArgs false
set_option maxRecDepth 100000
set_option maxHeartbeats 8000000
section
open Go.Value renaming int → Z
open Go.IntKind renaming i64 → Y
open Go.RowKit Go.Sort
variable {xb yb:Nat} {v0 v1 v2:Value} {W w:World}
theorem yQ{B n cap:Nat}{a:Option Addr}{xs:List Int}(h:w.ownsRow B 2 1 (.slice a n cap) n (fH xs))(hn:n=xs.length){k:Nat}(hk:k<n):∃g,a=some ⟨g,0,none⟩∧B≤g∧g<w.heap.size∧w.cell? ⟨g,k,none⟩=some (Z Y (xs.getD k 0)):=by
 rcases h.2 with ⟨_,h0⟩ | ⟨g,c',cur,e',hb,hh,h1,h2,h3,h4⟩
 ·omega
 ·injection e' with e1;refine⟨g,e1,hb,(Array.getElem?_eq_some_iff.1 hh).1,?_⟩;rw[cell_of_row w g k cur _ _ hh]
  have e:(fH xs)[k]? = some (Z Y (xs.getD k 0)):=by
   unfold fH;rw[List.getElem?_map,List.getD_eq_getElem?_getD,List.getElem?_eq_getElem (by omega)];rfl
  rw[←h4,List.getElem?_take,if_pos (by omega)]at e;simpa using e
theorem DE{B n m:Nat}{t:TypeId}{a:Option Addr}{c:Nat}{xs:List Value}(h:w.ownsRow B t m (.slice a n c) n xs)(hf:∀x,a=some x→x.block≠yb)(x0 x1 x2:Value):(((w.setCell ⟨yb,0,none⟩ x0).setCell ⟨yb,1,none⟩ x1).setCell ⟨yb,2,none⟩ x2).ownsRow B t m (.slice a n c) n xs:=by
 refine World.ownsRow.kept h (aF (aF (aF (aV (Below.refl _ _)) 0 _) 1 _) 2 _) ?_;cases a with
 | none=>exact .inl rfl
 | some x=>exact .inr (fun e=>hf x rfl (Option.some.inj e))
theorem Cq{t:TypeId}(h:Blk W xb [v0,v1,v2] t)(x0 x1 x2:Value):Blk (((W.setCell ⟨xb,0,none⟩ x0).setCell ⟨xb,1,none⟩ x1).setCell ⟨xb,2,none⟩ x2) xb [x0,x1,x2] t:=Blk.set (Blk.set (Blk.set h 0 x0) 1 x1) 2 x2
theorem jO{n:Nat}(h:Below n w W)(hx:n≤xb)(x0 x1 x2:Value):Below n w (((W.setCell ⟨xb,0,none⟩ x0).setCell ⟨xb,1,none⟩ x1).setCell ⟨xb,2,none⟩ x2):=((h.setCell hx _).setCell hx _).setCell hx _
def Ci(W:World)(I:List Int)(cnt code:Int)(sv:Value)(wx:World):Prop:=∃yb aI cI,sv=.pointer (some ⟨yb,0,none⟩)∧Blk wx yb [.slice aI I.length cI,Z Y cnt,Z Y code] 83∧wx.ownsRow W.heap.size 2 1 (.slice aI I.length cI) I.length (fH I)∧Below W.heap.size W wx
theorem ml{V:World}{I:List Int}{cnt code:Int}{aI:Option Addr}{cI:Nat}(hY:Blk V yb [v0,v1,v2] 83)(hR:V.ownsRow W.heap.size 2 1 (.slice aI I.length cI) I.length (fH I))(hf:∀x,aI=some x→x.block≠yb)(hB:Below W.heap.size W V)(hb:W.heap.size≤yb):Ci W I cnt code (.pointer (some ⟨yb,0,none⟩)) (((V.setCell ⟨yb,0,none⟩ (.slice aI I.length cI)).setCell ⟨yb,1,none⟩ (Z Y cnt)).setCell ⟨yb,2,none⟩ (Z Y code)):=
 ⟨yb,aI,cI,rfl,Cq hY _ _ _,DE hR hf _ _ _,jO hB hb _ _ _⟩
theorem vB(w:World)(db B:Nat)(t:Tk)(u:U4)(a:Option Addr)(cap:Nat)(tx:ByteArray)(n:Int)(hk:bV t)(hs:tx.size≤9223372036854775807)(hB:B≤w.heap.size)(hD:bj w db B t u a cap):
  Calls Tryz.prog 21 #[.pointer (some ⟨db,0,none⟩),.agg #[.string ⟨#[105,100,115]⟩,.string tx,Z Y n]] w fun e w'=>e=.returned (.string (rZ t u n))∧(∃a' cap',bj w' db B t u a' cap')∧w.grownBy w' (some db):=by
 have hn:t.L.length≤1048576:=Nat.le_trans hk.1 (by decide);have HZ:=yz (an w (.cells #[.string ⟨#[105,100,115]⟩,.string tx,Z Y n] 53));have HD0:=yz (hD.kept (yy HZ));have HB0:B≤(w.alloc (.cells #[.string ⟨#[105,100,115]⟩,.string tx,Z Y n] 53)).heap.size:=Nat.le_trans hB (yy HZ).size;have c0:=(aq w [.string ⟨#[105,100,115]⟩,.string tx,Z Y n] 53).cell 0 _ rfl;have c1:=(aq w [.string ⟨#[105,100,115]⟩,.string tx,Z Y n] 53).cell 1 _ rfl;have c2:=(aq w [.string ⟨#[105,100,115]⟩,.string tx,Z Y n] 53).cell 2 _ rfl;have HSB:Hid (rZ t u n=if bD t.L (bf t.L u.1 u.2.1 u.2.2.1 u.2.2.2 n)=0 then iP (bl t.L (bf t.L u.1 u.2.1 u.2.2.1 u.2.2.2 n)) (bl t.L (bf t.L u.1 u.2.1 u.2.2.1 u.2.2.2 n)).length else gm (bD t.L (bf t.L u.1 u.2.1 u.2.2.1 u.2.2.2 n)).toNat):=yz rfl;generalize rZ t u n=R at *;have hs6:=iI t.L u.1 u.2.1 u.2.2.1 u.2.2.2 n;have hks:=kK t.L (bf t.L u.1 u.2.1 u.2.2.1 u.2.2.2 n);obtain⟨hil,his⟩:=jV t.L (bf t.L u.1 u.2.1 u.2.2.1 u.2.2.2 n);have HIS:=yz his;have HSZ:=yz (lq his);clear his;have cS:=yz (fun W h=>ma W db B t u a cap n hn h);have hmx:maxLen≤9223372036854775807:=by decide +kernel
 have cI:=yz (fun (W:World) br dr=>oR t.L (bf t.L u.1 u.2.1 u.2.2.1 u.2.2.2 n) a br cap dr W hn (by omega));generalize (bf t.L u.1 u.2.1 u.2.2.1 u.2.2.2 n)=S at *;obtain⟨u1,u2,u3,u4⟩:=u;obtain⟨L,lim,mode,A,B',C,D,coast,fr⟩:=t;dsimp only at hn hD HSB hil hks HIS HSZ cI;generalize bl L S=I at *;generalize ef L S=cnt at *;generalize bD L S=code at *;have hdl:=(yy HD0).lt;have d0:=(yy HD0).blk.cell 0 _ rfl;have hwl:w.heap.size<(w.alloc (.cells #[.string ⟨#[105,100,115]⟩,.string tx,Z Y n] 53)).heap.size:=(aq w [.string ⟨#[105,100,115]⟩,.string tx,Z Y n] 53).lt;have HKS:Hid (∀w':World,Below (w.alloc (.cells #[.string ⟨#[105,100,115]⟩,.string tx,Z Y n] 53)).heap.size (w.alloc (.cells #[.string ⟨#[105,100,115]⟩,.string tx,Z Y n] 53)) w'→w'.cell? ⟨db,0,none⟩=some (.slice a L.length cap)∧w'.cell? ⟨w.heap.size,2,none⟩=some (Z Y n)):=yz (fun w' h=>⟨by rw[h.cell hdl];exact d0,by rw[h.cell hwl];exact c2⟩);go_enter Tryz.func21,Tryz.ntmps21;go_upto_region 14 with fail;generalize w.alloc (.cells #[.string ⟨#[105,100,115]⟩,.string tx,Z Y n] 53)=W at *;clear c0 c1 c2 d0;go_cut [5] (fun sv wx=>Ci W I cnt code sv wx)
 case first=>
  refine wp_region_held_drew (S:=(fun w'=>w'.cell? ⟨db,0,none⟩=some (.slice a L.length cap)∧w'.cell? ⟨w.heap.size,2,none⟩=some (Z Y n))) (by kernel_rfl) (yy HKS W (Below.refl _ _)) (fun hHeld=>?_);refine ac 0 rfl ?_;try simp only[Act.put,ah,ai,aj]
  refine ac 1 rfl ?_;try simp only[Act.put,ah,ai,aj]
  refine ac 2 rfl ?_;try simp only[Act.put,ah,ai,aj]
  refine ac 3 rfl ?_;try simp only[Act.put,ah,ai,aj]
  refine ac 4 rfl ?_;try simp only[Act.put,ah,ai,aj]
  refine ac 5 rfl ?_;try simp only[Act.put,ah,ai,aj]
  refine ac 6 rfl ?_;try simp only[Act.put,ah,ai,aj]
  refine ac 7 rfl ?_;try simp only[Act.put,ah,ai,aj]
  refine ag 8 10 rfl (fun K hK=>?_) rfl fun K hK=>?_
  ·skip;go_simp;refine((yy cS) W.drew ((yy HD0).kept (Below.refl _ _).drew)).mono ?_;rintro e V1 ⟨⟨vS,rfl,hR⟩,hx⟩;obtain⟨aS,cpS,rfl⟩:=ek hR;have HR:=yz hR;have HV:Hid (Below W.heap.size W V1):=yz ((Below.refl W.heap.size W).drew.trans hx)
   have hcap:S.length≤cpS∧cpS≤9223372036854775807:=by
    rcases(di hR).2 with h | h
    ·exact⟨h.1,Nat.le_trans h.2 hmx⟩
    ·omega
   clear hx hR;refine hK.out _ _ (yy HKS _ (yy HV)) (fun hHeld1=>?_);clear hK K hHeld;refine ag 9 10 rfl (fun K hK=>?_) rfl fun K hK=>?_
   ·skip;go_simp;refine((yy cI) V1 aS cpS hcap.1 hcap.2 ((yy HD0).kept (yy HV)).sky.stars (di (yy HR)).1 (gX ((yy HD0).kept (yy HV)).sky) (fun y e=>(ck (yy HR) y e).2)).mono ?_;rintro e V2 ⟨⟨vI,rfl,hI⟩,hx⟩;obtain⟨aI,cpI,rfl⟩:=ek hI;have HV1:=ax HV hx;have hvl:W.heap.size≤V1.heap.size:=(yy HV).size;have HI1:=yz (dm hI hvl);have hfar:=fun x e=>(ck hI x e).2;clear hx hI HV;have HV:=HV1;refine hK.out _ _ (yy HKS _ (yy HV)) (fun hHeld=>?_);clear hK K hHeld1;refine af 10 rfl fun K hK=>?_;go_simp;have HY:=yz (aq V2 [.slice none 0 0,Z Y 0,Z Y 0] 83);have HI:=yz (bA (yy HI1) (an V2 (.cells #[.slice none 0 0,Z Y 0,Z Y 0] 83)));have HF:Hid (∀x,aI=some x→x.block≠V2.heap.size):=yz (fun x e=>Nat.ne_of_lt (hfar x e));have hyb:W.heap.size≤V2.heap.size:=(yy HV).size;replace HV:=yz (ak (yy HV) (an V2 (.cells #[.slice none 0 0,Z Y 0,Z Y 0] 83)));generalize V2.alloc (.cells #[.slice none 0 0,Z Y 0,Z Y 0] 83)=V3 at *;generalize V2.heap.size=yb at *;refine hK.out _ _ (yy HKS _ (yy HV)) (fun hHeld1=>?_);clear hK K hHeld;obtain⟨y0,y1,y2⟩:=jN (yy HY);have z0:=AG (yy HY);refine af 11 rfl fun K hK=>?_;go_simp;have HCUT:=yz (ml (cnt:=cnt) (code:=code) (yy HY) (yy HI) (yy HF) (yy HV) hyb);refine hK.out _ _ (yy HKS _ (jO (yy HV) hyb _ _ _)) (fun hHeldE=>?_);clear hK K y0 y1 y2 z0;refine wpAnyH_done (by kernel_rfl) ?_ _;clear hHeldE;go_wp2_with fail;go_meet
    exact yy HCUT
   ·skip;go_simp;have HY1:=yz (aq V1 [.slice none 0 0,Z Y 0,Z Y 0] 83);have hyb:W.heap.size≤V1.heap.size:=(yy HV).size;replace HR:=yz (bA (yy HR) (an V1 (.cells #[.slice none 0 0,Z Y 0,Z Y 0] 83)));replace HV:=yz (ak (yy HV) (an V1 (.cells #[.slice none 0 0,Z Y 0,Z Y 0] 83)));refine hK.out _ _ (yy HKS _ (yy HV)) (fun hHeld=>?_);clear hK K hHeld1;refine af 9 rfl fun K hK=>?_;go_simp;refine((yy cI) _ aS cpS hcap.1 hcap.2 ((yy HD0).kept (yy HV)).sky.stars (di (yy HR)).1 (gX ((yy HD0).kept (yy HV)).sky) (fun y e=>(ck (yy HR) y e).2)).mono ?_;rintro e V2 ⟨⟨vI,rfl,hI⟩,hx⟩;obtain⟨aI,cpI,rfl⟩:=ek hI;have HY:=ap HY1 hx;have hvl:=(yy HV).size;have hylt:=(yy HY1).lt;have HF:Hid (∀x,aI=some x→x.block≠V1.heap.size):=yz (fun x e=>by have:=(ck hI x e).1;omega);have HI:=yz (dm hI hvl);replace HV:=ax HV hx;clear hx hI;refine hK.out _ _ (yy HKS _ (yy HV)) (fun hHeld1=>?_);clear hK K hHeld;obtain⟨y0,y1,y2⟩:=jN (yy HY);have z0:=AG (yy HY);refine af 11 rfl fun K hK=>?_;go_simp;have HCUT:=yz (ml (cnt:=cnt) (code:=code) (yy HY) (yy HI) (yy HF) (yy HV) hyb);refine hK.out _ _ (yy HKS _ (jO (yy HV) hyb _ _ _)) (fun hHeldE=>?_);clear hK K y0 y1 y2 z0;refine wpAnyH_done (by kernel_rfl) ?_ _;clear hHeldE;go_wp2_with fail;go_meet
    exact yy HCUT
  ·skip;go_simp;have HY0:Hid (Blk (W.drew.alloc (.cells #[.slice none 0 0,Z Y 0,Z Y 0] 83)) W.heap.size [.slice none 0 0,Z Y 0,Z Y 0] 83):=yz (aq W.drew [.slice none 0 0,Z Y 0,Z Y 0] 83);have HV0:Hid (Below W.heap.size W (W.drew.alloc (.cells #[.slice none 0 0,Z Y 0,Z Y 0] 83))):=yz ((Below.refl W.heap.size W).drew.trans (an W.drew (.cells #[.slice none 0 0,Z Y 0,Z Y 0] 83)));refine hK.out _ _ (yy HKS _ (yy HV0)) (fun hHeld1=>?_);clear hK K hHeld;refine af 8 rfl fun K hK=>?_;go_simp;refine((yy cS) _ ((yy HD0).kept (yy HV0))).mono ?_;rintro e V1 ⟨⟨vS,rfl,hR⟩,hx⟩;obtain⟨aS,cpS,rfl⟩:=ek hR;have HR:=yz hR;have HV:Hid (Below W.heap.size W V1):=ax HV0 hx
   have hcap:S.length≤cpS∧cpS≤9223372036854775807:=by
    rcases(di hR).2 with h | h
    ·exact⟨h.1,Nat.le_trans h.2 hmx⟩
    ·omega
   have HY1:=ap HY0 hx;clear hx hR;refine hK.out _ _ (yy HKS _ (yy HV)) (fun hHeld=>?_);clear hK K hHeld1;refine af 9 rfl fun K hK=>?_;go_simp;refine((yy cI) V1 aS cpS hcap.1 hcap.2 ((yy HD0).kept (yy HV)).sky.stars (di (yy HR)).1 (gX ((yy HD0).kept (yy HV)).sky) (fun y e=>(ck (yy HR) y e).2)).mono ?_;rintro e V2 ⟨⟨vI,rfl,hI⟩,hx⟩;obtain⟨aI,cpI,rfl⟩:=ek hI;have HY:=ap HY1 hx;have hvl:=(yy HV).size;have hylt:=(yy HY1).lt;have HF:Hid (∀x,aI=some x→x.block≠W.heap.size):=yz (fun x e=>by have:=(ck hI x e).1;omega);have HI:=yz (dm hI hvl);replace HV:=ax HV hx;clear hx hI;refine hK.out _ _ (yy HKS _ (yy HV)) (fun hHeld1=>?_);clear hK K hHeld;obtain⟨y0,y1,y2⟩:=jN (yy HY);have z0:=AG (yy HY);refine af 11 rfl fun K hK=>?_;go_simp;have HCUT:=yz (ml (cnt:=cnt) (code:=code) (yy HY) (yy HI) (yy HF) (yy HV) (Nat.le_refl _));refine hK.out _ _ (yy HKS _ (jO (yy HV) (Nat.le_refl _) _ _ _)) (fun hHeldE=>?_);clear hK K y0 y1 y2 z0;refine wpAnyH_done (by kernel_rfl) ?_ _;clear hHeldE;go_wp2_with fail;go_meet
   exact yy HCUT
 case rest=>
 obtain⟨yb,aI,cpI,rfl,hY,hI,hBc⟩:=hcut;have HY:=yz hY;have HI:=yz hI;have HBC:=yz hBc;have y0:=hY.cell 0 _ rfl;have y2:=hY.cell 2 _ rfl;have hyl:=hY.lt;clear hY hI hBc HKS cS cI;by_cases hc:code=0
 case neg=>
  rw[if_neg hc]at HSB;obtain⟨m,rfl⟩:=Int.eq_ofNat_of_zero_le hks.1;go_wp2_with fail;refine(im m _ (by omega)).mono ?_;rintro e W3 ⟨rfl,hx3⟩;have HB3:=ax HBC hx3;go_wp2_with fail;go_ret;rw[yy HSB];exact⟨rfl,⟨_,_,(yy HD0).kept (yy HB3)⟩,aV (ak (yy HZ) (yy HB3))⟩
 subst hc;rw[if_pos rfl]at HSB;have hI6:I.length≤6:=by omega
 go_wp2_with fail;go_loopw [6,7] (fun s kk wr=>∃k:Nat,k≤I.length∧s=.string (iP I k)∧kk=Z Y k∧Hid (Below wc.heap.size wc wr)) (fun _ kk _=>I.length-(intOf kk).toNat)
 case atStart=>exact⟨0,Nat.zero_le _,rfl,rfl,yz (Below.refl _ _)⟩
 case round=>
  obtain⟨k,hk',rfl,rfl,HW⟩:=hrel;have y0':wr.cell? ⟨yb,0,none⟩=some (.slice aI I.length cpI):=by rw[(yy HW).cell hyl];exact y0
  by_cases hkn:k<I.length
  ·have hkn2:(k:Int)<(I.length:Int):=by omega
   obtain⟨g,rfl,hg1,hg2,ci⟩:=yQ (yy HI) rfl hkn;have ci':wr.cell? ⟨g,k,none⟩=some (Z Y (I.getD k 0)):=by rw[(yy HW).cell hg2];exact ci
   have hmem:I.getD k 0∈I:=by rw[List.getD_eq_getElem?_getD,List.getElem?_eq_getElem hkn];exact List.getElem_mem hkn
   have hid:=yy HIS _ hmem;have HJ:Hid (iP I (k+1)=(if 0<k then iP I k ++ ⟨#[44]⟩ else iP I k) ++ eG (I.getD k 0).toNat):=yz rfl;have hz:=yy HSZ k;have HJ0:Hid (iP I 0=⟨#[]⟩):=yz rfl;clear hmem ci;generalize I.getD k 0=id at *;obtain⟨m,rfl⟩:=Int.eq_ofNat_of_zero_le hid.1;have cD:=yz (fun W=>fj m W (by omega));have hz2:=ec (n:=m) (by omega);rw[Int.toNat_natCast]at HJ;generalize eG m=xd at *;by_cases hk0:0<k
   ·have hk0':(0:Int)<(k:Int):=by omega
    rw[if_pos hk0]at HJ;generalize hJk:iP I k=J at *;have hc1:¬J.size+(⟨#[44]⟩:ByteArray).size>9223372036854775807:=by rw[show (⟨#[44]⟩:ByteArray).size=1 from rfl];omega
    have hc2:¬(J ++ ⟨#[44]⟩).size+xd.size>9223372036854775807:=by rw[ByteArray.size_append,show (⟨#[44]⟩:ByteArray).size=1 from rfl];omega
    go_wp2_with fail;refine((yy cD) _).mono ?_;rintro e W3 ⟨rfl,hx3⟩;have HW3:=ax HW hx3;clear hx3;go_wp2_with fail;go_roundw
    case rel=>exact⟨k+1,hkn,by rw[yy HJ],by go_num,HW3⟩
    case measure=>simp[intOf]<;>omega
   ·have hk0':k=0:=by omega
    subst hk0';rw[if_neg (by omega)]at HJ;have hc2:¬(⟨#[]⟩:ByteArray).size+xd.size>9223372036854775807:=by rw[show (⟨#[]⟩:ByteArray).size=0 from rfl];omega
    rw[yy HJ0]at HJ ⊢;go_wp2_with fail;refine((yy cD) _).mono ?_;rintro e W3 ⟨rfl,hx3⟩;have HW3:=ax HW hx3;clear hx3;go_wp2_with fail;go_roundw
    case rel=>exact⟨1,hkn,by rw[yy HJ],by go_num,HW3⟩
    case measure=>simp[intOf]<;>omega
  ·have hke:k=I.length:=by omega
   subst hke;go_wp2_with fail;go_ret;rw[yy HSB];exact⟨rfl,⟨_,_,(yy HD0).kept (ak (yy HBC) (yy HW))⟩,aV (ak (yy HZ) (ak (yy HBC) (yy HW)))⟩
end
section
open Go.Value renaming int → J
open Go.IntKind renaming i64 → Z
open Go.RowKit Go.Sort
theorem rH(w:World)(db B:Nat)(t:Tk)(u:U4)(a:Option Addr)(cap:Nat)(tx:ByteArray)(n:Int)(hk:bV t)(hs:tx.size≤9223372036854775807)(hB:B≤w.heap.size)(hD:bj w db B t u a cap):
  Calls Tryz.prog 21 #[.pointer (some ⟨db,0,none⟩),.agg #[.string ⟨#[115,116,97,116,101]⟩,.string tx,J Z n]] w fun e w'=>e=.returned (.string (jo t))∧(∃a' cap',bj w' db B t u a' cap')∧w.grownBy w' (some db):=by
 have hn:t.L.length≤1048576:=Nat.le_trans hk.1 (by decide);have HZ:=yz (an w (.cells #[.string ⟨#[115,116,97,116,101]⟩,.string tx,J Z n] 53));have HD0:=yz (hD.kept (yy HZ));have HB0:B≤(w.alloc (.cells #[.string ⟨#[115,116,97,116,101]⟩,.string tx,J Z n] 53)).heap.size:=Nat.le_trans hB (yy HZ).size;have c0:=(aq w [.string ⟨#[115,116,97,116,101]⟩,.string tx,J Z n] 53).cell 0 _ rfl;have c1:=(aq w [.string ⟨#[115,116,97,116,101]⟩,.string tx,J Z n] 53).cell 1 _ rfl;have c2:=(aq w [.string ⟨#[115,116,97,116,101]⟩,.string tx,J Z n] 53).cell 2 _ rfl;have HSB:Hid (jo t=if t.mode=0 then ⟨#[48,32,45]⟩ else (eG t.mode.toNat ++ ⟨#[32]⟩) ++ cy t.A t.B t.C t.D):=yz rfl;generalize jo t=R at *;obtain⟨u1,u2,u3,u4⟩:=u;obtain⟨L,lim,mode,A,B',C,D,coast,fr⟩:=t;obtain⟨_,hm0,hm2⟩:=hk;dsimp only at hn hD hm0 hm2 HSB;have hdl:=(yy HD0).lt;have d2:=(yy HD0).blk.cell 2 _ rfl;have d3:=(yy HD0).blk.cell 3 _ rfl;have d4:=(yy HD0).blk.cell 4 _ rfl;have d5:=(yy HD0).blk.cell 5 _ rfl;have d6:=(yy HD0).blk.cell 6 _ rfl;by_cases hm:mode=0
 case pos=>
  rw[if_pos hm]at HSB;subst hm;go_enter Tryz.func21,Tryz.ntmps21;go_wp2_with fail;go_ret;rw[yy HSB];exact⟨rfl,⟨_,_,yy HD0⟩,aV (yy HZ)⟩
 rw[if_neg hm]at HSB;have HKS:Hid (∀w':World,Below (w.alloc (.cells #[.string ⟨#[115,116,97,116,101]⟩,.string tx,J Z n] 53)).heap.size (w.alloc (.cells #[.string ⟨#[115,116,97,116,101]⟩,.string tx,J Z n] 53)) w'→w'.cell? ⟨db,2,none⟩=some (J Z mode)∧w'.cell? ⟨db,3,none⟩=some (J Z A)∧w'.cell? ⟨db,4,none⟩=some (J Z B')∧w'.cell? ⟨db,5,none⟩=some (J Z C)∧w'.cell? ⟨db,6,none⟩=some (J Z D)):=yz (fun w' h=>⟨by rw[h.cell hdl];exact d2,by rw[h.cell hdl];exact d3,by rw[h.cell hdl];exact d4,by rw[h.cell hdl];exact d5,by rw[h.cell hdl];exact d6⟩);obtain⟨n',rfl⟩:=Int.eq_ofNat_of_zero_le hm0;have hnz:((n':Int)==0)=false:=by simpa using hm
 have cD:=yz (fun W=>fj n' W (by omega));have cX:=yz (fun W=>it A B' C D W);have hz1:=ec (n:=n') (by omega);have hz2:=jH A B' C D;rw[Int.toNat_natCast]at HSB;generalize eG n'=xd at *;generalize cy A B' C D=xt at *;have hc1:¬xd.size+(⟨#[32]⟩:ByteArray).size>9223372036854775807:=by rw[show (⟨#[32]⟩:ByteArray).size=1 from rfl];omega
 have hc2:¬(xd ++ ⟨#[32]⟩).size+xt.size>9223372036854775807:=by rw[ByteArray.size_append,show (⟨#[32]⟩:ByteArray).size=1 from rfl];omega
 have hc3:¬9223372036854775807<xd.size+1:=by omega
 have hc4:¬9223372036854775807<xd.size+1+xt.size:=by omega
 go_enter Tryz.func21,Tryz.ntmps21;go_upto_region 27 with fail;generalize w.alloc (.cells #[.string ⟨#[115,116,97,116,101]⟩,.string tx,J Z n] 53)=W at *;clear c0 c1 c2;refine wp_region_held_drew (S:=(fun w'=>w'.cell? ⟨db,2,none⟩=some (J Z (n':Int))∧w'.cell? ⟨db,3,none⟩=some (J Z A)∧w'.cell? ⟨db,4,none⟩=some (J Z B')∧w'.cell? ⟨db,5,none⟩=some (J Z C)∧w'.cell? ⟨db,6,none⟩=some (J Z D))) (by kernel_rfl) (yy HKS W (Below.refl _ _)) (fun hHeld=>?_);clear d2 d3 d4 d5 d6;refine ac 0 rfl ?_;try simp only[Act.put,ah,ai,aj]
 refine ac 1 rfl ?_;try simp only[Act.put,ah,ai,aj]
 refine ac 2 rfl ?_;try simp only[Act.put,ah,ai,aj]
 refine ac 3 rfl ?_;try simp only[Act.put,ah,ai,aj]
 refine ac 4 rfl ?_;try simp only[Act.put,ah,ai,aj]
 refine ac 7 rfl ?_;try simp only[Act.put,ah,ai,aj]
 refine ac 8 rfl ?_;try simp only[Act.put,ah,ai,aj]
 refine ac 9 rfl ?_;try simp only[Act.put,ah,ai,aj]
 refine ac 10 rfl ?_;try simp only[Act.put,ah,ai,aj]
 refine ac 11 rfl ?_;try simp only[Act.put,ah,ai,aj]
 refine af 5 rfl fun K hK=>?_;go_simp;refine((yy cD) W.drew).mono ?_;rintro e V1 ⟨rfl,hx⟩;have HV1:Hid (Below W.heap.size W V1):=yz ((Below.refl W.heap.size W).drew.trans hx);clear hx;refine hK.out _ _ (yy HKS _ (yy HV1)) (fun hHeld1=>?_);clear hK K hHeld;refine ac 6 rfl ?_;try simp only[Act.put,ah,ai,aj]
 refine af 12 rfl fun K hK=>?_;go_simp;refine((yy cX) V1).mono ?_;rintro e V2 ⟨rfl,hx⟩;have HV2:=ax HV1 hx;clear hx;refine hK.out _ _ (yy HKS _ (yy HV2)) (fun hHeld=>?_);clear hK K hHeld1;refine ac 13 rfl ?_;try simp only[Act.put,ah,ai,aj]
 refine af 14 rfl fun K hK=>?_;go_simp;refine hK.out _ _ (yy HKS _ (yy HV2)) (fun hHeld1=>?_);clear hK K hHeld;refine wpAnyH_done (by kernel_rfl) ?_ _;clear hHeld1;go_wp2_with fail;go_ret;rw[yy HSB];exact⟨rfl,⟨_,_,(yy HD0).kept (yy HV2)⟩,aV (ak (yy HZ) (yy HV2))⟩
end
section
open Go.RowKit Go.Sort
theorem Ae{r:List UInt8}{l:Ln}(h:bq r=some l):l.k≤6∧l.t.length≤r.length:=by
 have hp:∀p∈pcs 32 r,p.length≤r.length:=fun p hp=>iz hp;unfold bq at h;split at h
 ·cases h
 ·rename_i w q e
  rw[e]at hp
  have T0:∀ {k:Nat},k≤6→gY k q=some l→l.k≤6∧l.t.length≤r.length:=by
   intro k hk h;unfold gY at h;split at h
   ·injection h with h;subst h;exact⟨hk,Nat.zero_le _⟩
   ·cases h
  have T1:∀ {k:Nat},k≤6→iK k q=some l→l.k≤6∧l.t.length≤r.length:=by
   intro k hk h;unfold iK at h;split at h
   ·split at h
    ·cases h
    ·injection h with h;subst h;exact⟨hk,hp _ (by simp)⟩
   ·cases h
  have T2:∀ {k:Nat},k≤6→jj k q=some l→l.k≤6∧l.t.length≤r.length:=by
   intro k hk h;unfold jj at h;split at h
   ·split at h
    ·injection h with h;subst h;exact⟨hk,Nat.zero_le _⟩
    ·cases h
   ·cases h
  split at h
  ·exact T0 (by decide) h
  split at h
  ·exact T1 (by decide) h
  split at h
  ·exact T2 (by decide) h
  split at h
  ·exact T1 (by decide) h
  split at h
  ·exact T0 (by decide) h
  split at h
  ·exact T2 (by decide) h
  split at h
  ·exact T0 (by decide) h
  ·cases h
theorem vD(w:World)(db B:Nat)(d:Tk×U4)(a:Option Addr)(cap:Nat)(l:Ln)(hl:l.k≤6)(hk:bV d.1)(hs:l.t.length≤8000)(hB:B≤w.heap.size)(hD:bj w db B d.1 d.2 a cap):
  Calls Tryz.prog 21 #[.pointer (some ⟨db,0,none⟩),.agg #[bT (ku l.k),bT l.t,.int .i64 l.n]] w fun e w'=>e=.returned (.string (fJ d l).2)∧(∃a' cap',bj w' db B (fJ d l).1.1 (fJ d l).1.2 a' cap')∧w.grownBy w' (some db):=by
 obtain⟨k,t,n⟩:=l;obtain⟨tk,u⟩:=d;have hs':(⟨t.toArray⟩:ByteArray).size≤9223372036854775807:=by show t.toArray.size≤_;simp at hs ⊢;omega
 match k,hl with
 | 0,_=>exact rE w db B tk u a cap ⟨t.toArray⟩ n hk hs' hB hD
 | 1,_=>exact rF w db B tk u a cap ⟨t.toArray⟩ n hk hs' hB hD
 | 2,_=>exact vB w db B tk u a cap ⟨t.toArray⟩ n hk hs' hB hD
 | 3,_=>exact sE w db B tk u a cap ⟨t.toArray⟩ n hk hs' hB hD
 | 4,_=>exact rG w db B tk u a cap ⟨t.toArray⟩ n hk hs' hB hD
 | 5,_=>exact vC w db B tk u a cap ⟨t.toArray⟩ n hk hs' hB hD
 | 6,_=>exact rH w db B tk u a cap ⟨t.toArray⟩ n hk hs' hB hD
 | k+7,h=>exact absurd h (by simp)
end
section
open Go.Value renaming int → J
open Go.IntKind renaming i64 → Z
open Go.RowKit Go.Sort
variable {tx:ByteArray} {cap db:Nat} {v v3:Value} {w w2 wr:World}
theorem Gn{B g n c:Nat}{D:List (List UInt8)}(h:co w B (.slice (some ⟨g,0,none⟩) n c) D){j:Nat}{x:List UInt8}(hj:D[j]? = some x):w.cell? ⟨g,j,none⟩=some (bT x):=by
 have hn:D≠[]:=fun e=>by rw[e]at hj;cases hj
 obtain⟨g',cap,e,_,_,_,_,h2⟩:=eM h hn;injection e with e1 e2 e3;injection e1 with e1;injection e1 with e1;subst e1;exact h2 j x hj
theorem fc{s:ByteArray}(h:dJ s=[]):dQ s=⟨#[]⟩:=by unfold dQ;rw[h];rfl
theorem iA(T:Array Value)(X:World)(b:Nat)(t:ByteArray)(n c:Int)(hT:T.getD 2 undef=.pointer (some ⟨b,0,none⟩))(h:Blk X b [.string t,J Z n,J Z c] 25):(results Tryz.f6 T).run Tryz.prog X=.ok (.agg #[.string t,J Z n,J Z c]) X:=by
 obtain⟨h0,h1,h2⟩:=jN (h);simp only[Array.getD_eq_getD_getElem?]at hT;simp[results,Tryz.results6,go_sem,hT,h0,h1,h2]
theorem rh(w:World)(B:Nat)(h:B≤w.heap.size):(w.alloc (.cells #[] 5)).ownsRow B 5 1 (.slice (some ⟨w.heap.size,0,none⟩) 0 0) 0 (Lib.strCells ⟨#[]⟩):=
 ⟨rfl,.inr ⟨_,0,#[],rfl,h,Array.getElem?_push_size,Nat.le_refl _,Nat.zero_le _,rfl,rfl⟩⟩
theorem rk{B:Nat}(h:w.ownsRow B 5 1 v tx.size (Lib.strCells tx))(hn:v≠.slice none 0 0):(convert 22 9 v).run Tryz.prog w=.ok (.string tx) w:=by
 rcases h.2 with ⟨e,_⟩ | ⟨g,cap,cur,rfl,hb,hg,h1,h2,h3,h4⟩
 ·exact absurd e hn
 ·have hl:tx.data.toList.length=tx.size:=by simp
  have:=run_convert_bytes_back (P:=Tryz.prog) w 22 9 5 ⟨g,0,none⟩ cap tx.data.toList Tryz.underlying22 Tryz.underlying5 Tryz.underlying9 (fun j hj=>by
   have e:(Lib.strCells tx)[j]? = some (.int .u8 (tx.data.toList[j]).toNat):=by unfold Lib.strCells;rw[List.getElem?_map,List.getElem?_eq_getElem hj];rfl
   rw[←h4,List.getElem?_take,if_pos (by omega)]at e;rw[show (⟨g,0,none⟩:Addr).add j=⟨g,j,none⟩ by cases j<;>simp[Addr.add]];rw[cell_of_row w g j cur _ _ hg]
   simpa using e)
  rw[hl]at this;simpa using this
structure pB (w:World) (db B:Nat) (v3:Value) (D:List (List UInt8)) (wr:World) (v:Value) (d:Tk×U4) (tx:ByteArray) (a:Option Addr) (cap:Nat):Prop where
 out:Blk wr w.heap.size [.string ⟨#[]⟩,J Z 0,J Z 0] 25
 txt:co wr (w.heap.size+1) v3 D
 dsk:bj wr db B d.1 d.2 a cap
 row:wr.ownsRow (w.heap.size+1) 5 1 v tx.size (Lib.strCells tx)
 nn:v≠.slice none 0 0
 bel:Below w.heap.size w wr
 low:w.heap.size+1≤wr.heap.size
 dbl:w.heap.size+1≤db
 lob:B≤wr.heap.size
theorem pB.kept{B:Nat}{D:List (List UInt8)}{d:Tk×U4}{a:Option Addr}(h:pB w db B v3 D wr v d tx a cap)(hx:Below wr.heap.size wr w2):pB w db B v3 D w2 v d tx a cap:=
 ⟨h.out.kept hx,bA h.txt hx,h.dsk.kept hx,bA h.row hx,h.nn,ak h.bel hx,Nat.le_trans h.low hx.size,h.dbl,Nat.le_trans h.lob hx.size⟩
theorem pB.line{B:Nat}{D:List (List UInt8)}{d d2:Tk×U4}{a a2:Option Addr}{cap2:Nat}(h:pB w db B v3 D wr v d tx a cap)(hg:wr.grownBy w2 (some db))(hD:bj w2 db B d2.1 d2.2 a2 cap2):pB w db B v3 D w2 v d2 tx a2 cap2:=
 ⟨h.out.grown hg (fun e=>by have:=h.dbl;have:=Option.some.inj e;omega),World.ownsRow.kept h.txt hg (pY h.txt h.dsk.blk (by decide)),hD,World.ownsRow.kept h.row hg (pY h.row h.dsk.blk (by decide)),h.nn,kB h.bel hg (Nat.le_of_succ_le h.low) (fun g e=>by have:=Option.some.inj e;have:=h.dbl;omega),Nat.le_trans h.low hg.size,h.dbl,Nat.le_trans h.lob hg.size⟩
theorem pB.app{B:Nat}{v':Value}{D:List (List UInt8)}{d:Tk×U4}{tx':ByteArray}{a:Option Addr}(h:pB w db B v3 D wr v d tx a cap)(hg:wr.grownBy w2 v.ownBlock)(hr:w2.ownsRow (w.heap.size+1) 5 1 v' tx'.size (Lib.strCells tx'))(hn:v'≠.slice none 0 0):pB w db B v3 D w2 v' d tx' a cap:=by
 have hlt:=EZ h.row;refine⟨h.out.grown hg (fun e=>by have:=hlt _ e.symm;omega),World.ownsRow.kept h.txt hg (tN h.txt h.row (by decide)),⟨h.dsk.blk.grown hg ?_,World.ownsRow.kept h.dsk.sky hg (tN h.dsk.sky h.row (by decide)),h.dsk.far⟩,hr,hn,kB h.bel hg (Nat.le_of_succ_le h.low) (fun g e=>by have:=hlt g e;omega),Nat.le_trans h.low hg.size,h.dbl,Nat.le_trans h.lob hg.size⟩;rcases pY h.row h.dsk.blk (by decide) with e | e
 ·rw[e];intro e2;cases e2
 ·exact fun e2=>e e2.symm
theorem pL(s:ByteArray)(w:World)(hs:s.size≤1048576):
  Calls Tryz.prog 6 #[.string s] w fun e w'=>e=.returned (.agg #[.string (dQ s),J Z (fE s),J Z (dA s)])∧Below w.heap.size w w':=by
 have R0:=aq w [.string ⟨#[]⟩,J Z 0,J Z 0] 25;by_cases hb:8000<s.size
 ·have hb':(8000:Int)<(s.size:Int):=by omega
  have HO:=yz (DK hb);go_enter Tryz.func6,Tryz.ntmps6;go_wp2;refine bodyPost_ret (v:=.agg #[.string ⟨#[]⟩,J Z 0,J Z 2]) ?_ rfl ⟨by rw[(yy HO).2.1,(yy HO).2.2,fc (yy HO).1],an _ _⟩
  ·simp[results,Tryz.results6,go_sem]
 have hb':¬(8000:Int)<(s.size:Int):=by omega
 have HG:=yz (fun L h=>Am (s:=s) hb (L:=L) h);have HFT:=yz (fun i h=>xK (s:=s) hb (i:=i) h);have HL0:=yz (yV s);have hDn:pcs 10 s.data.toList≠[]:=kj _ _;have HSH:=yz (fun p h=>iz (c:=10) (s:=s.data.toList) (p:=p) h);have hDm:=xG 10 s.data.toList;rw[be]at hDm;obtain⟨i0,hinf,hz0,hz1,hz2⟩:=infoByte;have hm8:10000≤maxLen:=by decide +kernel
 have H0:Hid (ee=(iQ iV 2,(1,0,0,0))):=yz rfl;have hok0:=xE;have HB0:=yz (an w (.cells #[.string ⟨#[]⟩,J Z 0,J Z 0] 25));have hW0:(w.alloc (.cells #[.string ⟨#[]⟩,J Z 0,J Z 0] 25)).heap.size=w.heap.size+1:=by simp
 have cS:Hid (Calls Tryz.prog 17 #[.string s,.int .u8 10] (w.alloc (.cells #[.string ⟨#[]⟩,J Z 0,J Z 0] 25)) fun e w'=>(∃v,e=.returned v∧co w' (w.alloc (.cells #[.string ⟨#[]⟩,J Z 0,J Z 0] 25)).heap.size v (pcs 10 s.data.toList))∧Below (w.alloc (.cells #[.string ⟨#[]⟩,J Z 0,J Z 0] 25)).heap.size (w.alloc (.cells #[.string ⟨#[]⟩,J Z 0,J Z 0] 25)) w'):=yz (cH s 10 (w.alloc (.cells #[.string ⟨#[]⟩,J Z 0,J Z 0] 25)) (by omega));have cN:Hid (∀W:World,Calls Tryz.prog 18 #[.slice (some ⟨W.heap.size,0,none⟩) 6 6,J Z 2] (W.alloc fY) fun e w'=>pA w' (W.alloc fY).heap.size (iQ iV 2) (kw iV 2) e∧Below (W.alloc fY).heap.size (W.alloc fY) w'):=yz (fun W=>xX iV 2 W.heap.size 0 6 (W.alloc fY) (by decide) (sZ (zT W)));have HR0:=yz R0;clear R0;have HLE:Hid (∀done,ii s done→ii s done):=yz (fun _ h=>h);obtain⟨D,HDD⟩:∃D,Hid (pcs 10 s.data.toList=D):=⟨_,yz rfl⟩
 rw[yy HDD]at hDn HSH hDm cS;obtain⟨t0,ht0⟩:∃t0,iQ iV 2=t0:=⟨_,rfl⟩
 rw[ht0]at cN H0;rw[yy H0]at hok0;clear ht0;generalize kw iV 2=c0 at *;obtain⟨L0,i1,i2,i3,i4,i5,i6,i7,i8⟩:=t0;go_enter Tryz.func6,Tryz.ntmps6;go_wp2_with fail;refine(yy cS).mono ?_;rintro e W1 ⟨⟨v3,rfl,hT⟩,hx⟩;obtain⟨g3,c3,rfl,_,_,_,hg3,_⟩:=eM hT hDn;have HT1:Hid (co W1 (w.heap.size+1) (.slice (some ⟨g3,0,none⟩) D.length c3) D):=yz (by rw[←hW0];exact hT);have HR1:=ap HR0 hx;have HB1:=ax HB0 hx;have hs1:w.heap.size+1≤W1.heap.size:=by have:=hx.size;omega
 clear hT hx cS HB0 HR0;go_wp2_with fail;refine(vw W1).mono ?_;rintro e W2 ⟨rfl,rfl⟩;go_wp2_with fail;refine((yy cN) W1).mono ?_;rintro e W2 ⟨⟨a2,cap2,rfl,hC⟩,hx⟩;have hx':=ak (an W1 fY) hx;have HC2:=yz (dm hC (show W1.heap.size≤(W1.alloc fY).heap.size by simp));have HT2:=yz (bA (yy HT1) hx');have HR2:=ap HR1 hx';have HB2:=ax HB1 hx';have hs2:W1.heap.size≤W2.heap.size:=hx'.size;have HF2:Hid (∀x,a2=some x→x.block≠W2.heap.size):=yz (fun x e=>Nat.ne_of_lt (ck hC x e).2);clear hC hx hx' HT1 HR1 HB1 cN;have hft:=CJ W2 a2 L0.length cap2 i1 i2 i3 i4 i5 i6 i7 i8 c0;go_wp2_with fail;have hy:=aX W2 (.cells #[.slice a2 L0.length cap2,J Z i1,J Z i2,J Z i3,J Z i4,J Z i5,J Z i6,J Z i7,J Z i8,J Z 1,J Z 0,J Z 0,J Z 0] 51) (.cells #[] 5)
 have HST0:Hid (pB w W2.heap.size W1.heap.size (.slice (some ⟨g3,0,none⟩) D.length c3) D ((W2.alloc (.cells #[.slice a2 L0.length cap2,J Z i1,J Z i2,J Z i3,J Z i4,J Z i5,J Z i6,J Z i7,J Z i8,J Z 1,J Z 0,J Z 0,J Z 0] 51)).alloc (.cells #[] 5)) (.slice (some ⟨(W2.alloc (.cells #[.slice a2 L0.length cap2,J Z i1,J Z i2,J Z i3,J Z i4,J Z i5,J Z i6,J Z i7,J Z i8,J Z 1,J Z 0,J Z 0,J Z 0] 51)).heap.size,0,none⟩) 0 0) (gB []).1 (gB []).2 a2 cap2):=yz (by
  have e:gB []=((⟨L0,i1,i2,i3,i4,i5,i6,i7,i8⟩,(1,0,0,0)),⟨#[]⟩):=by show (ee,_)=_;rw[yy H0]
  rw[e]
  exact⟨(yy HR2).kept hy,bA (yy HT2) hy,⟨(aq W2 [.slice a2 L0.length cap2,J Z i1,J Z i2,J Z i3,J Z i4,J Z i5,J Z i6,J Z i7,J Z i8,J Z 1,J Z 0,J Z 0,J Z 0] 51).alloc _,bA (yy HC2) hy,yy HF2⟩,rh _ _ (by simp;omega),(fun e=>by cases e),ak (yy HB2) hy,by simp;omega,by omega,by simp;omega⟩)
 have hok1:bV (gB []).1.1:=by show bV ee.1;rw[yy H0];exact hok0
 have hsz1:(W2.alloc (.cells #[.slice a2 L0.length cap2,J Z i1,J Z i2,J Z i3,J Z i4,J Z i5,J Z i6,J Z i7,J Z i8,J Z 1,J Z 0,J Z 0,J Z 0] 51)).heap.size=W2.heap.size+1:=by simp
 try rw[hsz1]at HST0
 clear hy HT2 HR2 HB2 HC2 HF2 H0 hok0 hsz1;generalize (W2.alloc (.cells #[.slice a2 L0.length cap2,J Z i1,J Z i2,J Z i3,J Z i4,J Z i5,J Z i6,J Z i7,J Z i8,J Z 1,J Z 0,J Z 0,J Z 0] 51)).alloc (.cells #[] 5)=W3 at *;generalize W2.heap.size=db at *;generalize W1.heap.size=B at *;have hDp:0<D.length:=List.length_pos_iff.2 hDn;go_loopw [5,6] (fun v kk wr=>∃(k:Nat) (done:List Ln) (a:Option Addr) (cap:Nat),Hid (done.length=k)∧kk=J Z k∧k<D.length∧k≤40∧Hid (ii s done)∧bV (gB done).1.1∧Hid ((gB done).2.size≤71*k)∧Hid (pB w db B (.slice (some ⟨g3,0,none⟩) D.length c3) D wr v (gB done).1 (gB done).2 a cap)) (fun _ kk _=>D.length-(intOf kk).toNat)
 case atStart=>exact⟨0,[],a2,cap2,yz rfl,rfl,hDp,by omega,HL0,hok1,yz (Nat.zero_le _),HST0⟩
 case round=>
  clear HST0 hok1 HL0;obtain⟨k,done,a',cap',HN,rfl,hkD,hk40,HL,hok,HSZ,HS⟩:=hrel;obtain⟨p,hp⟩:∃p,D[k]? = some p:=⟨_,List.getElem?_eq_getElem hkD⟩
  have cl:=Gn (yy HS).txt hp;have hps:p.length≤8000:=by have:=yy HSH p (List.mem_of_getElem? hp);rw[be]at this;omega
  have cR:=yz (fun W=>xe ⟨p.toArray⟩ W (by show p.toArray.size≤8000;simpa using hps));have HDR:Hid (D.drop k=p :: D.drop (k+1)):=yz (by rw[List.drop_eq_getElem_cons hkD];rw[List.getElem?_eq_getElem hkD]at hp;rw[Option.some.inj hp]);unfold bT at cl;clear hp;obtain⟨pb,hpb⟩:∃pb:ByteArray,(⟨p.toArray⟩:ByteArray)=pb:=⟨_,rfl⟩
  have HPB:Hid (pb.data.toList=p):=yz (by rw[←hpb])
  have HPE:Hid (p≠[]→pb.toList.isEmpty=false∧(pb.toList==[])=false):=yz (fun h=>by
   have e:pb.toList=p:=by rw[ByteArray.toList_eq,←hpb]
   rw[e];cases p with
   | nil=>exact absurd rfl h
   | cons x xs=>exact⟨rfl,rfl⟩)
  have HPN:Hid (p=[]→pb=⟨#[]⟩):=yz (fun h=>by rw[←hpb,h]);rw[hpb]at cl cR;clear hpb;by_cases hlast:k+1=D.length
  ·have el:((k:Int)==(D.length:Int)-1)=true:=by simp;omega
   have HDR1:Hid ((pcs 10 s.data.toList).drop done.length=[p]):=yz (by rw[yy HDD,yy HN,yy HDR,List.drop_of_length_le (by omega)]);by_cases hpe:p=[]
   ·have hpb0:=yy HPN hpe;subst hpb0;rw[hpe]at HDR1;have hDP:=yz (Dj (yy HL) (yy HDR1));have HR:=yz (yy HG done (yy hDP));have hcv:=rk (yy HS).row (yy HS).nn;have r0:=(yy HS).out.cell 0 _ rfl;have f0:=(yy HS).out.free 0;have r1:=(yy HS).out.cell 1 _ rfl;have f1:=(yy HS).out.free 1;have r2:=(yy HS).out.cell 2 _ rfl;have f2:=(yy HS).out.free 2;have HTX:Hid (dQ s=(gB done).2):=yz (by unfold dQ;rw[(yy HR).1]);generalize (gB done).2=tx at *;go_wp2_with fail;refine bodyPost_ret (v:=.agg #[.string tx,J Z 0,J Z 0]) ?_ rfl ⟨?_,?_⟩
    ·refine iA _ _ w.heap.size _ _ _ rfl ?_;exact(((yy HS).out.set 0 _).set 1 _).set 2 _
    ·rw[(yy HR).2.1,(yy HR).2.2,yy HTX]
    ·exact((((yy HS).bel.setCell (Nat.le_refl _) _).setCell (Nat.le_refl _) _).setCell (Nat.le_refl _) _)
   ·obtain⟨hpe1,hpe2⟩:=yy HPE hpe;have hDP:=yz (Bm (yy HL) hpe (yy HDR1));rw[yy HN]at hDP;go_wp2_with fail;refine((yy cR) _).mono ?_;rintro e V1 ⟨hle,hx⟩;have ST1:=ap HS hx;clear hx;unfold eB at hle;rcases hle with ⟨l,_,rfl⟩ | ⟨_,xa,xb,xn,rfl⟩
    ·obtain⟨wb,hwb⟩:∃wb:ByteArray,bT (ku l.k)=.string wb:=⟨_,rfl⟩
     obtain⟨tb,htb⟩:∃tb:ByteArray,bT l.t=.string tb:=⟨_,rfl⟩
     rw[hwb,htb];clear hwb htb;have ST3:=yz ((yy ST1).kept (an V1 (.cells #[.string wb,.string tb,J Z l.n] 53)));have r0:=(yy ST3).out.cell 0 _ rfl;have f0:=(yy ST3).out.free 0;have r1:=(yy ST3).out.cell 1 _ rfl;have f1:=(yy ST3).out.free 1;have r2:=(yy ST3).out.cell 2 _ rfl;have f2:=(yy ST3).out.free 2;have HR:=yz (yy HFT k (yy hDP));go_wp2_with fail;refine bodyPost_ret (v:=.agg #[.string ⟨#[]⟩,J Z k,J Z 3]) ?_ rfl ⟨?_,?_⟩
     ·refine iA _ _ w.heap.size _ _ _ rfl ?_;exact(((yy ST3).out.set 0 _).set 1 _).set 2 _
     ·rw[(yy HR).2.1,(yy HR).2.2,fc (yy HR).1]
     ·exact((((yy ST3).bel.setCell (Nat.le_refl _) _).setCell (Nat.le_refl _) _).setCell (Nat.le_refl _) _)
    ·have ST3:=yz ((yy ST1).kept (an V1 (.cells #[.string xa,.string xb,J Z xn] 53)));have r0:=(yy ST3).out.cell 0 _ rfl;have f0:=(yy ST3).out.free 0;have r1:=(yy ST3).out.cell 1 _ rfl;have f1:=(yy ST3).out.free 1;have r2:=(yy ST3).out.cell 2 _ rfl;have f2:=(yy ST3).out.free 2;have HR:=yz (yy HFT k (yy hDP));go_wp2_with fail;refine bodyPost_ret (v:=.agg #[.string ⟨#[]⟩,J Z k,J Z 3]) ?_ rfl ⟨?_,?_⟩
     ·refine iA _ _ w.heap.size _ _ _ rfl ?_;exact(((yy ST3).out.set 0 _).set 1 _).set 2 _
     ·rw[(yy HR).2.1,(yy HR).2.2,fc (yy HR).1]
     ·exact((((yy ST3).bel.setCell (Nat.le_refl _) _).setCell (Nat.le_refl _) _).setCell (Nat.le_refl _) _)
  ·have el:((k:Int)==(D.length:Int)-1)=false:=by simp;omega
   obtain⟨q,r,HDR2⟩:∃q r,Hid ((pcs 10 s.data.toList).drop done.length=p :: q :: r):=⟨_,_,yz (by rw[yy HDD,yy HN,yy HDR,List.drop_eq_getElem_cons (show k+1<D.length by omega)])⟩
   go_wp2_with fail;refine((yy cR) _).mono ?_;rintro e V1 ⟨hle,hx⟩;have ST1:=ap HS hx;clear hx cl;unfold eB at hle;rw[yy HPB]at hle;rcases hle with ⟨l,hl,rfl⟩ | ⟨hl,xa,xb,xn,rfl⟩
   case inr=>
    have hDP:=yz (Di (yy HL) (yy HDR2) hl);rw[yy HN]at hDP;have ST3:=yz ((yy ST1).kept (an V1 (.cells #[.string xa,.string xb,J Z xn] 53)));by_cases h40:40≤k
    ·have h40':(40:Int)≤(k:Int):=by omega
     have r0:=(yy ST3).out.cell 0 _ rfl;have f0:=(yy ST3).out.free 0;have r1:=(yy ST3).out.cell 1 _ rfl;have f1:=(yy ST3).out.free 1;have r2:=(yy ST3).out.cell 2 _ rfl;have f2:=(yy ST3).out.free 2;have HR:=yz (yy HFT k (yy hDP));go_wp2_with fail;refine bodyPost_ret (v:=.agg #[.string ⟨#[]⟩,J Z k,J Z 3]) ?_ rfl ⟨?_,?_⟩
     ·refine iA _ _ w.heap.size _ _ _ rfl ?_;exact(((yy ST3).out.set 0 _).set 1 _).set 2 _
     ·rw[(yy HR).2.1,(yy HR).2.2,fc (yy HR).1]
     ·exact((((yy ST3).bel.setCell (Nat.le_refl _) _).setCell (Nat.le_refl _) _).setCell (Nat.le_refl _) _)
    ·have h40':¬(40:Int)≤(k:Int):=by omega
     have r0:=(yy ST3).out.cell 0 _ rfl;have f0:=(yy ST3).out.free 0;have r1:=(yy ST3).out.cell 1 _ rfl;have f1:=(yy ST3).out.free 1;have r2:=(yy ST3).out.cell 2 _ rfl;have f2:=(yy ST3).out.free 2;have HR:=yz (yy HFT k (yy hDP));go_wp2_with fail;refine bodyPost_ret (v:=.agg #[.string ⟨#[]⟩,J Z k,J Z 3]) ?_ rfl ⟨?_,?_⟩
     ·refine iA _ _ w.heap.size _ _ _ rfl ?_;exact(((yy ST3).out.set 0 _).set 1 _).set 2 _
     ·rw[(yy HR).2.1,(yy HR).2.2,fc (yy HR).1]
     ·exact((((yy ST3).bel.setCell (Nat.le_refl _) _).setCell (Nat.le_refl _) _).setCell (Nat.le_refl _) _)
   have HLN:=yz (fun (W:World) db B d a cap=>vD W db B d a cap l);obtain⟨wb,hwb⟩:∃wb:ByteArray,bT (ku l.k)=.string wb:=⟨_,rfl⟩
   obtain⟨tb,htb⟩:∃tb:ByteArray,bT l.t=.string tb:=⟨_,rfl⟩
   rw[hwb,htb]at HLN ⊢;clear hwb htb;have ST3:=yz ((yy ST1).kept (an V1 (.cells #[.string wb,.string tb,J Z l.n] 53)));by_cases h40:40≤k
   ·have hDP:=yz (Bj (yy HL) (yy HDR2) hl (by rw[yy HN];exact h40));rw[yy HN]at hDP;have h40':(40:Int)≤(k:Int):=by omega
    have r0:=(yy ST3).out.cell 0 _ rfl;have f0:=(yy ST3).out.free 0;have r1:=(yy ST3).out.cell 1 _ rfl;have f1:=(yy ST3).out.free 1;have r2:=(yy ST3).out.cell 2 _ rfl;have f2:=(yy ST3).out.free 2;have HR:=yz (yy HFT k (yy hDP));go_wp2_with fail;refine bodyPost_ret (v:=.agg #[.string ⟨#[]⟩,J Z k,J Z 3]) ?_ rfl ⟨?_,?_⟩
    ·refine iA _ _ w.heap.size _ _ _ rfl ?_;exact(((yy ST3).out.set 0 _).set 1 _).set 2 _
    ·rw[(yy HR).2.1,(yy HR).2.2,fc (yy HR).1]
    ·exact((((yy ST3).bel.setCell (Nat.le_refl _) _).setCell (Nat.le_refl _) _).setCell (Nat.le_refl _) _)
   ·have h40':¬(40:Int)≤(k:Int):=by omega
    have HL2:=yz (Bk (yy HL) (yy HDR2) hl (by rw[yy HN];exact h40));have hlk:=Ae hl;have x0:=(aq V1 [.string wb,.string tb,J Z l.n] 53).cell 0 _ rfl;have x1:=(aq V1 [.string wb,.string tb,J Z l.n] 53).cell 1 _ rfl;have x2:=(aq V1 [.string wb,.string tb,J Z l.n] 53).cell 2 _ rfl;have cL:=yz ((yy HLN) (V1.alloc (.cells #[.string wb,.string tb,J Z l.n] 53)) db B (gB done).1 a' cap' hlk.1 hok (Nat.le_trans hlk.2 hps) (yy ST3).lob (yy ST3).dsk);have hok2:=Ai hok l;have hz2':=mp hok l;have HRN:=yz (BM done l);go_wp2_with fail;refine(yy cL).mono ?_;rintro e V4 ⟨rfl,⟨a4,cap4,hD4⟩,hg4⟩;have ST4:=yz ((yy ST3).line hg4 (d2:=(fJ (gB done).1 l).1) hD4);clear hD4 hg4 x0 x1 x2 cL;unfold stD at HRN;generalize fJ (gB done).1 l=R at *;obtain⟨d4,x4⟩:=R;dsimp only at hok2 hz2' HRN ST4;generalize (gB done).2=tx at *;have hszt:=yy HSZ;have hc:¬x4.size+(⟨#[10]⟩:ByteArray).size>9223372036854775807:=by rw[show (⟨#[10]⟩:ByteArray).size=1 from rfl];omega
    have hown:=(yy ST4).row;have hlo:=(yy ST4).low;have hsx:(x4 ++ ⟨#[10]⟩).size=x4.size+1:=by rw[ByteArray.size_append];rfl
    go_wp2_with (at_builtin;refine Lib.wpList_append_own_string _ rfl (.tmp 61) (.tmp 65) 22 9 rfl (w.heap.size+1) 5 i0 Tryz.underlying22 Tryz.underlying9 hinf hz0 hz1 hz2 _ _ _ rfl hown (x4 ++ ⟨#[10]⟩) rfl ?d3 ?d4 ?d5 ?_;rotate_right;intro v7 V7 hown7 hgrow7 hnil7)
    case d3=>rw[hsx];omega
    case d4=>rw[hsx];omega
    case d5=>exact hlo
    have HST7:Hid (pB w db B (.slice (some ⟨g3,0,none⟩) D.length c3) D V7 v7 (gB (done ++ [l])).1 (gB (done ++ [l])).2 a4 cap4):=yz (by
     rw[yy HRN];refine(yy ST4).app hgrow7 ?_ (fun e=>(yy ST4).nn (hnil7.1 e).1);rw[nU,ByteArray.size_append]
     exact hown7)
    have HSZ7:Hid ((gB (done ++ [l])).2.size≤71*(k+1)):=yz (by rw[yy HRN];show (tx ++ (x4 ++ ⟨#[10]⟩)).size≤_;rw[ByteArray.size_append,hsx];omega);have hok7:bV (gB (done ++ [l])).1.1:=by rw[yy HRN];exact hok2
    have HN7:Hid ((done ++ [l]).length=k+1):=yz (by rw[List.length_append,yy HN];rfl);clear hown7 hgrow7 hnil7 hown hok2 HRN;go_wp2_with fail;go_roundw
    case rel=>exact⟨k+1,done ++ [l],a4,cap4,HN7,by go_num,by omega,by omega,HL2,hok7,HSZ7,HST7⟩
    case measure=>simp[intOf]<;>omega
end
section
open Go.RowKit Go.Sort
def eU(R:List (List UInt8)):List UInt8:=R.flatMap (fun r=>r ++ [10])
theorem ol(r:List UInt8)(R:List (List UInt8)):eU (r :: R)=r ++ 10 :: eU R:=by unfold eU;rw[List.flatMap_cons,List.append_assoc];rfl
theorem qr(R S:List (List UInt8)):eU (R ++ S)=eU R ++ eU S:=by unfold eU;rw[List.flatMap_append]
theorem nE(b:List UInt8):∀R:List (List UInt8),(∀r∈R,(10:UInt8) ∉ r)→pcs 10 (eU R ++ b)=R ++ pcs 10 b
 | [],_=>rfl
 | r :: R,h=>by
  rw[ol,List.append_assoc,List.cons_append,lA (h r (List.mem_cons_self ..)),nE b R (fun x hx=>h x (List.mem_cons_of_mem _ hx))];rfl
theorem qT(i:Nat)(p x:List UInt8)(R:List (List UInt8)):cx i (p :: (R ++ [x]))=match bq p with
  | none=>.inr i
  | some l=>if 40≤i then .inr i else match cx (i+1) (R ++ [x]) with
   | .inl ls=>.inl (l :: ls)
   | .inr j=>.inr j:=by
 cases R with
 | nil=>rfl
 | cons q R=>rfl
theorem xl:∀(R:List (List UInt8)) (i:Nat) (tl:List UInt8) (ls:List Ln),cx i (R ++ [tl])=.inl ls→tl=[]∧ls.length=R.length∧∀k,k≤R.length→cx i (R.take k ++ [[]])=.inl (ls.take k)
 | [],i,tl,ls,h=>by
  have h':(if tl=[] then Sum.inl [] else Sum.inr i)=(Sum.inl ls:List Ln ⊕ Nat):=h;split at h'
  ·rename_i e
   obtain rfl:=Sum.inl.inj h';refine⟨e,rfl,fun k hk=>?_⟩;obtain rfl:k=0:=by simpa using hk
   rfl
  ·cases h'
 | p :: R,i,tl,ls,h=>by
  rw[List.cons_append,qT]at h;cases hp:bq p with
  | none=>rw[hp]at h;cases h
  | some l=>
   rw[hp]at h;dsimp only at h;split at h
   ·cases h
   ·rename_i h4
    cases hr:cx (i+1) (R ++ [tl]) with
    | inr j=>rw[hr]at h;cases h
    | inl l2=>
     rw[hr]at h;obtain rfl:=Sum.inl.inj h;obtain⟨e1,e2,e3⟩:=xl R (i+1) tl l2 hr;refine⟨e1,by simp[e2],fun k hk=>?_⟩;cases k with
     | zero=>rfl
     | succ k=>
      have e4:=e3 k (by simpa using hk);rw[List.take_succ_cons,List.cons_append,qT,hp];dsimp only;rw[if_neg h4,e4];rfl
theorem CA(R:List (List UInt8))(h:∀r∈R,(10:UInt8) ∉ r)(s:ByteArray)(hs:s.data.toList=eU R):eS s=cx 0 (R ++ [[]]):=by
 unfold eS;have:=nE [] R h;rw[List.append_nil]at this;rw[hs,this];rfl
def No(l:List UInt8):Prop:=(10:UInt8) ∉ l
theorem mt{a b:List UInt8}(h:No a)(h2:No b):No (a ++ b):=fun h3=>by
 rcases List.mem_append.1 h3 with h3 | h3
 ·exact h h3
 ·exact h2 h3
theorem oI{a b:ByteArray}(h:No a.data.toList)(h2:No b.data.toList):No (a ++ b).data.toList:=by
 rw[ByteArray.data_append,Array.toList_append];exact mt h h2
theorem FB{n:Nat}(h:48≤n)(h2:n≤57):(10:UInt8)≠UInt8.ofNat n:=fun e=>by
 have:=congrArg UInt8.toNat e;rw[UInt8.toNat_ofNat',Nat.mod_eq_of_lt (by omega)]at this;have h3:(10:UInt8).toNat=10:=rfl;omega
theorem FA:∀(m k:Nat),k≤m→No (dG k).data.toList
 | 0,k,h=>by
  obtain rfl:k=0:=by omega
  exact fun h=>by simp[dG]at h
 | m+1,k,h=>by
  by_cases hk:k=0
  ·subst hk;exact fun h=>by simp[dG]at h
  ·rw[up hk];refine oI (FA m (k / 10) (by omega)) (fun h=>?_);have h2:(10:UInt8)=dgB (k % 10):=by simpa using h
   exact FB (n:=48+k % 10) (by omega) (by omega) h2
theorem pS(n:Nat):No (eG n).data.toList:=by
 unfold eG;split
 ·exact fun h=>by simp at h
 ·exact FA n n (Nat.le_refl _)
theorem pT(n:Nat):No (gm n).data.toList:=oI (fun h=>by simp at h) (pS n)
theorem Fz{n:Int}(h0:0≤n)(h5:n≤5):(10:UInt8)≠d8 n:=FB (by omega) (by omega)
theorem uX{n:Int}(h:-5≤n∧n≤5):No (dig n):=fun h2=>by
 unfold dig at h2;split at h2
 ·rcases List.mem_cons.1 h2 with h2 | h2
  ·cases h2
  ·exact Fz (by omega) (by omega) (List.mem_singleton.1 h2)
 ·exact Fz (by omega) (by omega) (List.mem_singleton.1 h2)
theorem nu:No [44]:=fun h=>by simp at h
theorem Dq(a b c d:Int):No (cy a b c d).data.toList:=by
 unfold cy;split
 ·rename_i h
  obtain⟨h1,h2,h3,h4⟩:=bU.1 (bg.1 h).1;show No (ft a b c d);unfold ft;have e:∀l:List UInt8,44 :: l=[44] ++ l:=fun _=>rfl;rw[e,e,e];exact mt (uX h1) (mt nu (mt (uX h2) (mt nu (mt (uX h3) (mt nu (uX h4))))))
 ·exact fun h=>by simp at h
theorem uY(ids:List Int):∀k,No (iP ids k).data.toList
 | 0=>fun h=>by simp[iP]at h
 | k+1=>by
  unfold iP;refine oI ?_ (pS _);split
  ·exact oI (uY ids k) nu
  ·exact uY ids k
theorem EV(d:Tk×U4)(l:Ln):No (fJ d l).2.data.toList:=by
 have hlk:∀t S,No (dD t S).2.data.toList:=fun t S=>by
  unfold dD;split
  ·exact pS _
  ·exact pT _
 have htd:∀t u s b,No (bB t u s b).2.data.toList:=fun t u s b=>by
  unfold bB;split
  ·split
   ·exact fun h=>by simp[eR]at h
   ·exact pT _
  ·exact pT _
 unfold fJ;split
 ·exact hlk _ _
 ·exact htd _ _ _ _
 ·unfold rZ;split
  ·exact uY _ _
  ·exact pT _
 ·exact htd _ _ _ _
 ·exact fun h=>by simp[eR]at h
 ·exact hlk _ _
 ·unfold jo;split
  ·exact fun h=>by simp at h
  ·exact oI (oI (pS _) (fun h=>by simp at h)) (Dq _ _ _ _)
theorem oU:∀(ls:List Ln) (p:(Tk×U4)×ByteArray),∃R:List (List UInt8),(ls.foldl stD p).2.data.toList=p.2.data.toList ++ eU R∧R.length=ls.length∧∀r∈R,(10:UInt8) ∉ r
 | [],p=>⟨[],by simp[eU],rfl,fun _ h=>by cases h⟩
 | l :: ls,p=>by
  obtain⟨R,h1,h2,h3⟩:=oU ls (stD p l);refine⟨(fJ p.1 l).2.data.toList :: R,?_,by simp[h2],fun r hr=>?_⟩
  ·rw[List.foldl_cons,h1,ol];show (p.2 ++ ((fJ p.1 l).2 ++ ⟨#[10]⟩)).data.toList ++ eU R=_;simp[ByteArray.data_append]
  ·rcases List.mem_cons.1 hr with rfl | hr
   ·exact EV _ _
   ·exact h3 r hr
theorem uc:∀(ls:List Ln) (p:(Tk×U4)×ByteArray),bV p.1.1→(ls.foldl stD p).2.size≤p.2.size+71*ls.length
 | [],p,_=>Nat.le_refl _
 | l :: ls,p,h=>by
  have h1:=uc ls (stD p l) (Ai h l);have h2:=mp h l
  have h3:(stD p l).2.size=p.2.size+(fJ p.1 l).2.size+1:=by
   show (p.2 ++ ((fJ p.1 l).2 ++ ⟨#[10]⟩)).size=_;simp only[ByteArray.size_append];have:(⟨#[10]⟩:ByteArray).size=1:=rfl;omega
  rw[List.foldl_cons,List.length_cons];omega
theorem Cs(R:List (List UInt8)):R.length≤(eU R).length:=by
 induction R with
 | nil=>exact Nat.le_refl _
 | cons r R ih=>rw[ol];simp;omega
theorem AJ(R:List (List UInt8))(k:Nat):(eU (R.take k)).length≤(eU R).length:=by
 have h:eU R=eU (R.take k) ++ eU (R.drop k):=by rw[←qr,List.take_append_drop]
 rw[h,List.length_append];exact Nat.le_add_right _ _
def qq(R:List (List UInt8)):ByteArray:=⟨(eU R).toArray⟩
theorem CD{s:ByteArray}{R:List (List UInt8)}{tl:List UInt8}(hs:s.data.toList=eU R ++ tl)(hR:∀r∈R,(10:UInt8) ∉ r)(ht:(10:UInt8) ∉ tl)(hc:dA s=0):
  (∃R2:List (List UInt8),(dQ s).data.toList=eU R2∧R2.length=R.length∧∀r∈R2,(10:UInt8) ∉ r)∧(dQ s).size≤600000 ∧
  ∀k,k≤R.length→(qq (R.take k)).size≤8000∧(∃R2:List (List UInt8),(dQ (qq (R.take k))).data.toList=eU R2∧R2.length=k∧∀r∈R2,(10:UInt8) ∉ r)∧(dQ (qq (R.take k))).size≤600000 ∧
   ∃X:List UInt8,(dQ s).data.toList=(dQ (qq (R.take k))).data.toList ++ X:=by
 have h8:¬8000<s.size:=fun h=>by unfold dA at hc;rw[if_pos h]at hc;cases hc
 have hsz:s.size=(eU R ++ tl).length:=by rw[←hs];rfl
 obtain⟨ls,hls⟩:∃ls,eS s=.inl ls:=by
  unfold dA at hc;rw[if_neg h8]at hc;cases h:eS s with
  | inl ls=>exact⟨ls,rfl⟩
  | inr i=>rw[h]at hc;cases hc
 have hP:cx 0 (R ++ [tl])=.inl ls:=by
  rw[←hls];unfold eS;rw[hs,nE tl R hR,jC ht]
 obtain⟨rfl,hl,hk⟩:=xl R 0 tl ls hP;have hRl:R.length≤8000:=by have:=Cs R;rw[List.append_nil]at hsz;omega
 have eL:dJ s=ls:=by unfold dJ;rw[if_neg h8,hls]
 have one:∀(l2:List Ln),l2.length≤8000→(∃R2:List (List UInt8),(gB l2).2.data.toList=eU R2∧R2.length=l2.length∧∀r∈R2,(10:UInt8) ∉ r)∧(gB l2).2.size≤600000:=fun l2 h=>by
  obtain⟨R2,h1,h2,h3⟩:=oU l2 (ee,⟨#[]⟩);refine⟨⟨R2,by unfold gB;rw[h1];simp,h2,h3⟩,?_⟩;have:=uc l2 (ee,⟨#[]⟩) xE;have h0:(⟨#[]⟩:ByteArray).size=0:=rfl;unfold gB;dsimp only at this;omega
 obtain⟨o1,o2⟩:=one ls (by omega);refine⟨by unfold dQ;rw[eL,←hl];exact o1,by unfold dQ;rw[eL];exact o2,fun k hk2=>?_⟩
 have hcz:(qq (R.take k)).size≤8000:=by
  have h1:=AJ R k;have h2:(qq (R.take k)).size=(eU (R.take k)).length:=by unfold qq;simp[ByteArray.size]
  rw[List.append_nil]at hsz;omega
 have eK:dJ (qq (R.take k))=ls.take k:=by
  unfold dJ;rw[if_neg (by omega),CA (R.take k) (fun r hr=>hR r (List.mem_of_mem_take hr)) _ rfl,hk k hk2]
 have hkl:(ls.take k).length=k:=by rw[List.length_take];omega
 obtain⟨p1,p2⟩:=one (ls.take k) (by omega);refine⟨hcz,by unfold dQ;rw[eK];rw[hkl]at p1;exact p1,by unfold dQ;rw[eK];exact p2,?_⟩;obtain⟨R3,h1,_,_⟩:=oU (ls.drop k) (gB (ls.take k));refine⟨eU R3,?_⟩;unfold dQ;rw[eL,eK,←h1];unfold gB;rw[←List.foldl_append,List.take_append_drop]
theorem zS{s:List UInt8}{R R2:List (List UInt8)}{tl tl2:List UInt8}(h:s=eU R ++ tl)(hR:∀r∈R,(10:UInt8) ∉ r)(ht:(10:UInt8) ∉ tl)(h2:s=eU R2 ++ tl2)(hR2:∀r∈R2,(10:UInt8) ∉ r)(ht2:(10:UInt8) ∉ tl2):R.length=R2.length:=by
 have e:pcs 10 s=R ++ [tl]:=by rw[h,nE tl R hR,jC ht]
 have e2:pcs 10 s=R2 ++ [tl2]:=by rw[h2,nE tl2 R2 hR2,jC ht2]
 have:=congrArg List.length (e.symm.trans e2);simpa using this
end
section
open Go.RowKit
def vU(l:List UInt8)(k fr:Nat)(R:List (List UInt8)):Prop:=l.take k=eU R ++ (l.take k).drop fr∧(eU R).length=fr∧(∀r∈R,(10:UInt8) ∉ r)∧(10:UInt8) ∉ (l.take k).drop fr
theorem FU{l:List UInt8}{k fr:Nat}{R:List (List UInt8)}(h:vU l k fr R)(hk:k<l.length)(e:l.take (k+1)=l.take k ++ [10]):vU l (k+1) (k+1) (R ++ [(l.take k).drop fr]):=by
 obtain⟨h1,h2,h3,h4⟩:=h;have e0:(l.take (k+1)).drop (k+1)=[]:=List.drop_of_length_le (by rw[List.length_take];exact Nat.min_le_left _ _)
 have e1:l.take (k+1)=eU (R ++ [(l.take k).drop fr]):=by
  rw[qr,e,h1];have:eU [(l.take k).drop fr]=(l.take k).drop fr ++ [10]:=by unfold eU;simp
  rw[←h1,this,←List.append_assoc,←h1]
 refine⟨by rw[e0,List.append_nil];exact e1,by rw[←e1,List.length_take];omega,fun r hr=>?_,by rw[e0];exact fun h=>by cases h⟩;rcases List.mem_append.1 hr with hr | hr
 ·exact h3 r hr
 ·rw[List.mem_singleton.1 hr];exact h4
theorem ES{l:List UInt8}{k fr:Nat}{R:List (List UInt8)}{x:UInt8}(h:vU l k fr R)(hk:k<l.length)(hf:fr≤k)(e:l.take (k+1)=l.take k ++ [x])(hx:x≠10):vU l (k+1) fr R:=by
 obtain⟨h1,h2,h3,h4⟩:=h;have e1:(l.take (k+1)).drop fr=(l.take k).drop fr ++ [x]:=by rw[e,List.drop_append_of_le_length (by rw[List.length_take];omega)]
 refine⟨by rw[e1,←List.append_assoc,←h1];exact e,h2,h3,fun h5=>?_⟩;rw[e1]at h5;rcases List.mem_append.1 h5 with h5 | h5
 ·exact h4 h5
 ·exact hx (List.mem_singleton.1 h5).symm
def lnR(R:List (List UInt8)):List (List UInt8):=R.map (fun r=>r ++ [10])
theorem kT(s:ByteArray)(w:World)(hs:s.size≤600000):
  Calls Tryz.prog 9 #[.string s] w fun e w'=>(∃v R tl,e=.returned v∧s.data.toList=eU R ++ tl∧(∀r∈R,(10:UInt8) ∉ r)∧(10:UInt8) ∉ tl∧R.length≤s.size∧v≠.slice none 0 0∧co w' w.heap.size v (lnR R))∧Below w.heap.size w w':=by
 obtain⟨i0,hi,hz0,hz1,hz2⟩:=oC;have hm8:600001≤maxLen:=by decide +kernel
 have B0:=yz (an w (.cells #[] 9));have O0:Hid (co (w.alloc (.cells #[] 9)) w.heap.size (.slice (some ⟨w.heap.size,0,none⟩) 0 0) []):=yz ⟨rfl,.inr ⟨_,0,#[],rfl,Nat.le_refl _,Array.getElem?_push_size,Nat.le_refl _,Nat.zero_le _,rfl,rfl⟩⟩;go_enter Tryz.func9,Tryz.ntmps9;go_wp2_with fail;go_loopw [3,4,5] (fun v f i wr=>∃(k fr:Nat) (R:List (List UInt8)),k≤s.size∧fr≤k∧R.length≤k∧i=.int .i64 k∧f=.int .i64 fr∧Hid (vU s.data.toList k fr R)∧Hid (v≠.slice none 0 0)∧Hid (co wr w.heap.size v (lnR R))∧Hid (Below w.heap.size w wr)) (fun _ _ i _=>s.size-(intOf i).toNat)
 case atStart=>exact⟨0,0,[],by omega,by omega,by simp,rfl,rfl,yz ⟨rfl,rfl,fun _ h=>(by cases h),fun h=>(by cases h)⟩,yz (by intro h;injection h with h;cases h),O0,B0⟩
 case round=>
  clear O0 B0;obtain⟨k,fr,R,hk,hfr,hDl,rfl,rfl,HP,HN,HO,HB⟩:=hrel;by_cases hkn:k<s.size
  ·have hkn2:(k:Int)<(s.size:Int):=by omega
   have hsn:=nX s k hkn;have hkl:k<s.data.toList.length:=by rw[be];exact hkn
   by_cases hc:s[k]=10
   ·have hb:((s[k].toNat:Int)==10)=true:=by rw[hc];rfl
    have HP2:=yz (FU (yy HP) hkl (by rw[hsn,hc]));have hxl:(s.data.toList.take (k+1)).drop fr=(s.data.toList.take k).drop fr ++ [10]:=by rw[hsn,hc,List.drop_append_of_le_length (by rw[List.length_take];omega)]
    obtain⟨k1,hk1⟩:∃k1:Nat,(k:Int)+1=(k1:Int):=⟨k+1,by omega⟩
    have hk1e:k1=k+1:=by omega
    have HX:=yz (show s.extract fr k1=⟨((s.data.toList.take k).drop fr ++ [10]).toArray⟩ by rw[hk1e,nf s fr (k+1) hkn,hxl]);have hb1:(fr:Int)≤(k1:Int):=by omega
    have hb2:(k1:Int)≤(s.size:Int):=by omega
    have Z1:=an wr (.cells #[.string (s.extract fr k1)] 9);have hown:=mu (yy HO) (.cells #[.string (s.extract fr k1)] 9);have HB2:=ax HB Z1;have hsz:=(yy HB).size;have hlr:(lnR R).length=R.length:=by unfold lnR;simp
    have HK1:=yz hk1e;clear HP Z1 HB HO hsn hxl hc hk1e;go_wp2_with (at_builtin;refine wpList_append_own _ rfl _ _ 27 rfl w.heap.size 9 i0 (.string ⟨#[]⟩) 1 16 Tryz.underlying27 hi hz0 hz1 hz2 rfl (by decide) _ _ _ rfl hown ⟨wr.heap.size,0,none⟩ 1 1 [.string (s.extract fr k1)] rfl rfl ?d2 (fun u hu=>by simp at hu;subst hu;rfl) ?d3 ?d4 ?d5 ?_)
    case d2=>exact rf _ _ _
    case d3=>omega
    case d4=>omega
    case d5=>simp;omega
    intro v7 V7 hown7 hgrow7 hnil7;have HN7:Hid (v7≠.slice none 0 0):=yz (fun e=>by first | exact hnil7 e | exact yy HN (hnil7.1 e).1)
    have HO3:Hid (co V7 w.heap.size v7 (lnR (R ++ [(s.data.toList.take k).drop fr]))):=yz (by
     have e1:lnR (R ++ [(s.data.toList.take k).drop fr])=lnR R ++ [(s.data.toList.take k).drop fr ++ [10]]:=by unfold lnR;rw[List.map_append];rfl
     unfold co;rw[e1,List.map_append,List.length_append,hlr];show World.ownsRow _ _ _ _ _ _ (List.map bT (lnR R) ++ [bT _]);unfold bT;rw[←yy HX]
     exact hown7)
    have HB3:=yz (kB (yy HB2) hgrow7 (by simp;omega) (fun g e=>(hown.lt _ e).1));clear hown7 hgrow7 hown HB2 HX hnil7 HN;go_wp2_with fail;go_roundw
    case rel=>exact⟨k+1,k+1,_,by omega,by omega,by simp;omega,by first | (rw[←hk1];go_num) | go_num,by first | (rw[←hk1];go_num) | go_num,HP2,HN7,HO3,HB3⟩
    case measure=>simp[intOf];omega
   ·have hb:((s[k].toNat:Int)==10)=false:=by
     have:s[k].toNat≠(10:UInt8).toNat:=fun e=>hc (UInt8.toNat.inj e);have e10:(10:UInt8).toNat=10:=rfl;simpa using(show (s[k].toNat:Int)≠10 by omega)
    have HP2:=yz (ES (yy HP) hkl hfr hsn hc);clear HP hsn hc;go_wp2_with fail;go_roundw
    case rel=>exact⟨k+1,fr,R,by omega,by omega,by omega,by go_num,rfl,HP2,HN,HO,HB⟩
    case measure=>simp[intOf];omega
  ·have hks:k=s.size:=by omega
   subst hks;go_wp2_with fail;go_ret;obtain⟨h1,h2,h3,h4⟩:=yy HP;rw[List.take_of_length_le (by rw[be];exact Nat.le_refl _)]at h1 h4;exact⟨⟨_,R,_,rfl,h1,h3,h4,hDl,yy HN,yy HO⟩,yy HB⟩
end
end Go.Proofs.YtdchjcadhlkpfaaGreatDoor
