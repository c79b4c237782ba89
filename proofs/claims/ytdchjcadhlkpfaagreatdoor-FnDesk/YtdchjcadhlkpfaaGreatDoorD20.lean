/- Several texts in one: TurnT. -/
import Derived.Lib.SmallJoins
import Derived.Lib.AppendIntMem
import Derived.Test.YtdchjcadhlkpfaaGreatDoorD7
import Derived.Test.YtdchjcadhlkpfaaGreatDoorD6
import Derived.Test.YtdchjcadhlkpfaaGreatDoorD4
namespace Go.Proofs.YtdchjcadhlkpfaaGreatDoor
set_option linter.unusedVariables false
set_option linter.unusedSimpArgs false
set_option maxRecDepth 100000
set_option maxHeartbeats 8000000
section
open Go.Value renaming int → J
open Go.IntKind renaming i64 → Z
open Go.RowKit Go.Joins
open Go.Sort (grow)
def bO(n:Int):ByteArray:=⟨(Lib.itoa n).toArray⟩
def bm(w:World)(b:Nat)(s0 s1 s2 s3:ByteArray):Prop:=w.cell? ⟨b,0,none⟩=some (.string s0)∧w.cell? ⟨b,1,none⟩=some (.string s1)∧w.cell? ⟨b,2,none⟩=some (.string s2)∧w.cell? ⟨b,3,none⟩=some (.string s3)
variable {s0 s1 s2 s3:ByteArray} {w w':World}
theorem bm.lt{b:Nat}(h:bm w b s0 s1 s2 s3):b<w.heap.size:=World.block_lt_of_cell? w _ h.1
theorem bm.kept{b:Nat}(h:bm w b s0 s1 s2 s3)(hB:Below w.heap.size w w'):bm w' b s0 s1 s2 s3:=by
 have hb:=h.lt;obtain⟨h0,h1,h2,h3⟩:=h;exact⟨by rw[hB.cell (p:=⟨b,0,none⟩) hb];exact h0,by rw[hB.cell (p:=⟨b,1,none⟩) hb];exact h1,by rw[hB.cell (p:=⟨b,2,none⟩) hb];exact h2,by rw[hB.cell (p:=⟨b,3,none⟩) hb];exact h3⟩
theorem Cd(w:World)(s0 s1 s2 s3:ByteArray)(t:TypeId):bm (w.alloc (.cells #[.string s0,.string s1,.string s2,.string s3] t)) w.heap.size s0 s1 s2 s3:=by
 refine⟨?_,?_,?_,?_⟩<;>simp
theorem AU(w:World)(s0 s1 s2 s3:ByteArray)(t:TypeId):dx (w.alloc (.cells #[.string s0,.string s1,.string s2,.string s3] t)) w.heap.size:=by
 refine⟨?_,?_,?_,?_⟩<;>simp
theorem dx.set{b:Nat}(h:dx w b)(p:Addr)(v:Value):dx (w.setCell p v) b:=by
 obtain⟨h0,h1,h2,h3⟩:=h;refine⟨?_,?_,?_,?_⟩<;>simp[go_sem,h0,h1,h2,h3]
def Tab (w : World) : Prop := Lib.TabIs Tryz.prog w "internal/strconv.uint64pow10" .u64 Lib.pow10Tab
theorem tY : Tryz.prog.globalNamed "internal/strconv.uint64pow10" = some 4 := by kernel_rfl
theorem Tab.kept(h:Tab w)(hB:Below w.heap.size w w'):Tab w':=tab_stays tY h hB (Nat.le_refl _)
theorem qo(w:World)(k:Nat)(os:Array Obj):RowKit.Below w.heap.size w (grow (w.drewN k) os):=Lib.below_grow _ w (Nat.le_refl _) k os
theorem jS(n:Int)(w:World)(h:-1000≤n∧n≤1000)(ht:Tab w):
  Calls Tryz.prog 149 #[J Z n,J Z 10] w fun e w'=>e=.returned (.string (bO n))∧Below w.heap.size w w':=
 (strconv_FormatInt_10 n (by omega) (by omega) w ht).mono fun e w' ⟨he,k,os,hw⟩=>⟨he,by subst hw;exact qo _ _ _⟩
def yl(a b c d:Int)(w:World)(bk:Nat):Nat→Prop
 | 0=>bm w bk ⟨#[]⟩ ⟨#[]⟩ ⟨#[]⟩ ⟨#[]⟩
 | 1=>bm w bk (bO a) ⟨#[]⟩ ⟨#[]⟩ ⟨#[]⟩
 | 2=>bm w bk (bO a) (bO b) ⟨#[]⟩ ⟨#[]⟩
 | 3=>bm w bk (bO a) (bO b) (bO c) ⟨#[]⟩
 | _=>bm w bk (bO a) (bO b) (bO c) (bO d)
theorem nZ(a b c d:Int)(w:World)(ht:Tab w):
  Calls Tryz.prog 122 #[.agg #[J Z a,J Z b,J Z c,J Z d]] w fun e w'=>e=.returned (.string (cy a b c d))∧Below w.heap.size w w':=by
 have i0:∀w:World,(Instr.index 196 (.agg #[J Z a,J Z b,J Z c,J Z d]) (J Z 0)).run Tryz.prog w=.ok (J Z a) w:=fun _=>by kernel_rfl
 have i1:∀w:World,(Instr.index 196 (.agg #[J Z a,J Z b,J Z c,J Z d]) (J Z 1)).run Tryz.prog w=.ok (J Z b) w:=fun _=>by kernel_rfl
 have i2:∀w:World,(Instr.index 196 (.agg #[J Z a,J Z b,J Z c,J Z d]) (J Z 2)).run Tryz.prog w=.ok (J Z c) w:=fun _=>by kernel_rfl
 have i3:∀w:World,(Instr.index 196 (.agg #[J Z a,J Z b,J Z c,J Z d]) (J Z 3)).run Tryz.prog w=.ok (J Z d) w:=fun _=>by kernel_rfl
 have HT:=yz ht;clear ht;go_enter Tryz.func122,Tryz.ntmps122;go_wp2_with fail;refine(bw a b c d _).mono ?_;rintro e w1 ⟨rfl,hx⟩;have va:aJ w1 w.heap.size a b c d:=(aP w a b c d _).kept (by simp) hx;have hB:Below w.heap.size w w1:=ak (an _ _) hx;clear hx;cases hr:aD a b c d
 ·have HR:Hid (cy a b c d=⟨#[]⟩):=yz (vJ hr);go_wp2_with fail;go_ret;exact⟨by rw[yy HR];rfl,hB⟩
 ·have HR:=yz (qd hr);have HJ:=yz (BW (bg.1 hr).1);have HI:=yz (bU.1 (qN (bg.1 hr).1 (show (5:Int)≤1000 by omega)));have va2:=va.alloc (.cells #[.string ⟨#[]⟩,.string ⟨#[]⟩,.string ⟨#[]⟩,.string ⟨#[]⟩] 195);have hwn:=Cd w1 ⟨#[]⟩ ⟨#[]⟩ ⟨#[]⟩ ⟨#[]⟩ 195;have hfn:=AU w1 ⟨#[]⟩ ⟨#[]⟩ ⟨#[]⟩ ⟨#[]⟩ 195;have hB1:=hB.alloc hB.size (.cells #[.string ⟨#[]⟩,.string ⟨#[]⟩,.string ⟨#[]⟩,.string ⟨#[]⟩] 195);have hle:w.heap.size≤w1.heap.size:=hB.size;obtain⟨c0,c1,c2,c3⟩:=va2;clear va hr hB;go_wp2_with fail;refine(mF a b c d _).mono ?_;rintro e w2 ⟨rfl,hx⟩;replace hfn:=hfn.kept hwn.lt hx;replace hwn:=hwn.kept hx;replace hB1:=ak hB1 hx;clear hx c0 c1 c2 c3;generalize w1.heap.size=bk at hwn hfn hle ⊢;have HW:=yz hwn;have HF:=yz hfn;have HB:=yz hB1;clear hwn hfn hB1;go_wp2_with fail;go_loopw [11] (fun i wr=>∃k:Nat,k≤4∧i=J Z k∧Hid (yl a b c d wr bk k)∧Hid (dx wr bk)∧Hid (Below w.heap.size w wr)) (fun i _=>4-(intOf i).toNat)
  case atStart=>exact⟨0,by omega,rfl,HW,HF,HB⟩
  case round=>
   clear HW HF HB;obtain⟨k,hk,rfl,HW,HF,HB⟩:=hrel;have hk5:k=0∨k=1∨k=2∨k=3∨k=4:=by omega
   rcases hk5 with rfl | rfl | rfl | rfl | rfl
   ·go_wp2_with fail;refine(jS a _ (yy HI).1 ((yy HT).kept (yy HB))).mono ?_;rintro e w3 ⟨rfl,hx⟩;have hw:bm w3 bk ⟨#[]⟩ ⟨#[]⟩ ⟨#[]⟩ ⟨#[]⟩:=(show bm _ bk ⟨#[]⟩ ⟨#[]⟩ ⟨#[]⟩ ⟨#[]⟩ from yy HW).kept hx;have hf:dx w3 bk:=(yy HF).kept (bm.lt (show bm _ bk ⟨#[]⟩ ⟨#[]⟩ ⟨#[]⟩ ⟨#[]⟩ from yy HW)) hx;have hb:Below w.heap.size w w3:=ak (yy HB) hx;clear hx HW HF HB;have hw2:=hw;have hf2:=hf;obtain⟨g0,g1,g2,g3⟩:=hw2;obtain⟨f0,f1,f2,f3⟩:=hf2;have HB:=yz hb;have HH:=yz hw;have HF:=yz hf;clear hb hw hf;go_wp2_with fail;go_roundw
    case rel=>exact⟨1,by omega,rfl,yz (by simp[yl,bm,go_sem,g0,g1,g2,g3]),yz ((yy HF).set _ _),yz ((yy HB).setCell hle _)⟩
    case measure=>simp[intOf]
   ·go_wp2_with fail;refine(jS b _ (yy HI).2.1 ((yy HT).kept (yy HB))).mono ?_;rintro e w3 ⟨rfl,hx⟩;have hw:bm w3 bk (bO a) ⟨#[]⟩ ⟨#[]⟩ ⟨#[]⟩:=(show bm _ bk (bO a) ⟨#[]⟩ ⟨#[]⟩ ⟨#[]⟩ from yy HW).kept hx;have hf:dx w3 bk:=(yy HF).kept (bm.lt (show bm _ bk (bO a) ⟨#[]⟩ ⟨#[]⟩ ⟨#[]⟩ from yy HW)) hx;have hb:Below w.heap.size w w3:=ak (yy HB) hx;clear hx HW HF HB;have hw2:=hw;have hf2:=hf;obtain⟨g0,g1,g2,g3⟩:=hw2;obtain⟨f0,f1,f2,f3⟩:=hf2;have HB:=yz hb;have HH:=yz hw;have HF:=yz hf;clear hb hw hf;go_wp2_with fail;go_roundw
    case rel=>exact⟨2,by omega,rfl,yz (by simp[yl,bm,go_sem,g0,g1,g2,g3]),yz ((yy HF).set _ _),yz ((yy HB).setCell hle _)⟩
    case measure=>simp[intOf]
   ·go_wp2_with fail;refine(jS c _ (yy HI).2.2.1 ((yy HT).kept (yy HB))).mono ?_;rintro e w3 ⟨rfl,hx⟩;have hw:bm w3 bk (bO a) (bO b) ⟨#[]⟩ ⟨#[]⟩:=(show bm _ bk (bO a) (bO b) ⟨#[]⟩ ⟨#[]⟩ from yy HW).kept hx;have hf:dx w3 bk:=(yy HF).kept (bm.lt (show bm _ bk (bO a) (bO b) ⟨#[]⟩ ⟨#[]⟩ from yy HW)) hx;have hb:Below w.heap.size w w3:=ak (yy HB) hx;clear hx HW HF HB;have hw2:=hw;have hf2:=hf;obtain⟨g0,g1,g2,g3⟩:=hw2;obtain⟨f0,f1,f2,f3⟩:=hf2;have HB:=yz hb;have HH:=yz hw;have HF:=yz hf;clear hb hw hf;go_wp2_with fail;go_roundw
    case rel=>exact⟨3,by omega,rfl,yz (by simp[yl,bm,go_sem,g0,g1,g2,g3]),yz ((yy HF).set _ _),yz ((yy HB).setCell hle _)⟩
    case measure=>simp[intOf]
   ·go_wp2_with fail;refine(jS d _ (yy HI).2.2.2 ((yy HT).kept (yy HB))).mono ?_;rintro e w3 ⟨rfl,hx⟩;have hw:bm w3 bk (bO a) (bO b) (bO c) ⟨#[]⟩:=(show bm _ bk (bO a) (bO b) (bO c) ⟨#[]⟩ from yy HW).kept hx;have hf:dx w3 bk:=(yy HF).kept (bm.lt (show bm _ bk (bO a) (bO b) (bO c) ⟨#[]⟩ from yy HW)) hx;have hb:Below w.heap.size w w3:=ak (yy HB) hx;clear hx HW HF HB;have hw2:=hw;have hf2:=hf;obtain⟨g0,g1,g2,g3⟩:=hw2;obtain⟨f0,f1,f2,f3⟩:=hf2;have HB:=yz hb;have HH:=yz hw;have HF:=yz hf;clear hb hw hf;go_wp2_with fail;go_roundw
    case rel=>exact⟨4,by omega,rfl,yz (by simp[yl,bm,go_sem,g0,g1,g2,g3]),yz ((yy HF).set _ _),yz ((yy HB).setCell hle _)⟩
    case measure=>simp[intOf]
   ·have hw:bm wr bk (bO a) (bO b) (bO c) (bO d):=yy HW;have hb:=yy HB;have HL:Hid ((Lib.join ([bO a,bO b,bO c,bO d].map (·.data.toList)) (⟨#[44]⟩:ByteArray).data.toList)=ft a b c d):=yz (by rw[←yy HJ];simp[bO])
    have hcells:∀(j:Nat) x,[bO a,bO b,bO c,bO d][j]? = some x→wr.cell? ⟨bk,0+j,none⟩=some (.string x):=by
     intro j x hx
     have hj:j<4:=by
      rcases Nat.lt_or_ge j 4 with h | h
      ·exact h
      ·rw[List.getElem?_eq_none (by simpa using h)]at hx;cases hx
     match j,hj with
     | 0,_=>cases hx;exact hw.1
     | 1,_=>cases hx;exact hw.2.1
     | 2,_=>cases hx;exact hw.2.2.1
     | 3,_=>cases hx;exact hw.2.2.2
    have HC:=yz hcells;have HK:=yz hw.lt;have HB:=yz hb;clear hw hb HW HF hcells;go_wp2_with fail;refine(strings_Join bk 0 4 [bO a,bO b,bO c,bO d] ⟨#[44]⟩ wr (yy HC) (yy HK) (by simp) (by simp) (by rw[yy HL];have:=Eg a b c d;omega)).mono ?_;rw[yy HL];rintro e w3 ⟨rfl,hx⟩;have HB2:=ax HB hx;clear hx HC HK HL HB;go_wp2_with fail;go_ret;exact⟨by rw[yy HR];rfl,yy HB2⟩
end
end Go.Proofs.YtdchjcadhlkpfaaGreatDoor
