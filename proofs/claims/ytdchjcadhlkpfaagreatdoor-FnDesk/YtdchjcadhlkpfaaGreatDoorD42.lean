/- Several texts in one: DsI, DsJ, DsK, DsU, DsL. -/
import Derived.Test.YtdchjcadhlkpfaaGreatDoorD37
import Derived.Test.YtdchjcadhlkpfaaGreatDoorD41
namespace Go.Proofs.YtdchjcadhlkpfaaGreatDoor
set_option linter.unusedVariables false
set_option linter.unusedSimpArgs false
set_option maxRecDepth 100000
set_option maxHeartbeats 8000000
section
open Go.Value renaming int → J
open Go.IntKind renaming i64 → Y
open Go.RowKit Go.Sort
variable {cap db:Nat} {W w:World}
theorem aV{row:Option Nat}(h:Below w.heap.size w W):w.grownBy W row:=⟨h.os,h.tape,h.output,h.size,fun k hk _=>h.block k hk⟩
theorem bZ{V:World}{row:Option Nat}(h:w.grownBy W row)(h2:W.grownBy V row):w.grownBy V row:=⟨h2.os.trans h.os,h2.tape.trans h.tape,h2.output.trans h.output,Nat.le_trans h.size h2.size,fun k hk hne=>(h2.block k (Nat.lt_of_lt_of_le hk h.size) hne).trans (h.block k hk hne)⟩
theorem aF(h:w.grownBy W (some db))(i:Nat)(x:Value):w.grownBy (W.setCell ⟨db,i,none⟩ x) (some db):=
 have z:=(Below.refl 0 W).setCell (p:=⟨db,i,none⟩) (Nat.zero_le _) x;bZ h ⟨z.os,z.tape,z.output,z.size,fun k hk hne=>Below.heap_setCell W ⟨db,i,none⟩ x k (fun e=>hne (by rw[e]))⟩
theorem dH{B:Nat}{L:List St}{a:Option Addr}(h:aC w B L a cap)(hg:w.grownBy W (some db))(hf:∀x,a=some x→x.block≠db):aC W B L a cap:=by
 refine World.ownsRow.kept h hg ?_;cases a with
 | none=>exact .inl rfl
 | some x=>exact .inr (fun e=>hf x rfl (Option.some.inj e))
theorem bj.lt{B:Nat}{t:Tk}{u:U4}{a:Option Addr}(h:bj w db B t u a cap):db<w.heap.size:=h.blk.lt
theorem bj.put9{B:Nat}{t:Tk}{u:U4}{a:Option Addr}(h:bj W db B t u a cap)(t2:Tk)(a2:Option Addr)(cap2:Nat)(hC:aC W B t2.L a2 cap2)(hf:∀x,a2=some x→x.block≠db):bj (((((((((W.setCell ⟨db,0,none⟩ (.slice a2 t2.L.length cap2)).setCell ⟨db,1,none⟩ (J Y t2.lim)).setCell ⟨db,2,none⟩ (J Y t2.mode)).setCell ⟨db,3,none⟩ (J Y t2.A)).setCell ⟨db,4,none⟩ (J Y t2.B)).setCell ⟨db,5,none⟩ (J Y t2.C)).setCell ⟨db,6,none⟩ (J Y t2.D)).setCell ⟨db,7,none⟩ (J Y t2.coast)).setCell ⟨db,8,none⟩ (J Y t2.fr)) db B t2 u a2 cap2∧W.grownBy (((((((((W.setCell ⟨db,0,none⟩ (.slice a2 t2.L.length cap2)).setCell ⟨db,1,none⟩ (J Y t2.lim)).setCell ⟨db,2,none⟩ (J Y t2.mode)).setCell ⟨db,3,none⟩ (J Y t2.A)).setCell ⟨db,4,none⟩ (J Y t2.B)).setCell ⟨db,5,none⟩ (J Y t2.C)).setCell ⟨db,6,none⟩ (J Y t2.D)).setCell ⟨db,7,none⟩ (J Y t2.coast)).setCell ⟨db,8,none⟩ (J Y t2.fr)) (some db):=by
 have hg:W.grownBy (((((((((W.setCell ⟨db,0,none⟩ (.slice a2 t2.L.length cap2)).setCell ⟨db,1,none⟩ (J Y t2.lim)).setCell ⟨db,2,none⟩ (J Y t2.mode)).setCell ⟨db,3,none⟩ (J Y t2.A)).setCell ⟨db,4,none⟩ (J Y t2.B)).setCell ⟨db,5,none⟩ (J Y t2.C)).setCell ⟨db,6,none⟩ (J Y t2.D)).setCell ⟨db,7,none⟩ (J Y t2.coast)).setCell ⟨db,8,none⟩ (J Y t2.fr)) (some db):=aF (aF (aF (aF (aF (aF (aF (aF (aF (aV (Below.refl _ _)) 0 _) 1 _) 2 _) 3 _) 4 _) 5 _) 6 _) 7 _) 8 _;exact⟨⟨Blk.set (Blk.set (Blk.set (Blk.set (Blk.set (Blk.set (Blk.set (Blk.set (Blk.set (h.blk) 0 (.slice a2 t2.L.length cap2)) 1 (J Y t2.lim)) 2 (J Y t2.mode)) 3 (J Y t2.A)) 4 (J Y t2.B)) 5 (J Y t2.C)) 6 (J Y t2.D)) 7 (J Y t2.coast)) 8 (J Y t2.fr),dH hC hg hf,hf⟩,hg⟩
def dD(t:Tk)(S:List D3):Tk×ByteArray:=if ei t S=0 then (dP t S,eG (dP t S).mode.toNat) else (t,gm (ei t S).toNat)
theorem mr(t:Tk)(S:List D3):0≤ei t S∧ei t S≤9:=by
 unfold ei;split
 ·omega
 ·split
  ·split<;>omega
  ·omega
theorem kg{t:Tk}{S:List D3}(h:ei t S=0):0≤(dP t S).mode∧(dP t S).mode≤2:=by
 unfold dP;split
 ·exact⟨by decide,by decide⟩
 ·split
  ·rename_i h1
   split
   ·exact⟨by decide,by decide⟩
   ·have hm:jd t=true:=by
     simp only[Bool.and_eq_true]at h1;have:=h1.1;unfold aH at this;simp only[Bool.and_eq_true]at this;exact this.2
    have hmo:0≤t.mode∧t.mode≤2:=by
     unfold jd at hm;split at hm
     ·omega
     ·split at hm
      ·omega
      ·split at hm
       ·omega
       ·simp at hm
    unfold dO vL bt qY;split
    ·exact⟨(by decide:(0:Int)≤1),(by decide:(1:Int)≤2)⟩
    ·split
     ·exact⟨(by decide:(0:Int)≤1),(by decide:(1:Int)≤2)⟩
     ·split
      ·exact hmo
      ·split
       ·exact⟨(by decide:(0:Int)≤0),(by decide:(0:Int)≤2)⟩
       ·exact⟨(by decide:(0:Int)≤2),(by decide:(2:Int)≤2)⟩
  ·exact⟨by decide,by decide⟩
theorem jG(w:World)(db B:Nat)(t:Tk)(u:U4)(a:Option Addr)(cap:Nat)(S:List D3)(br:Option Addr)(dr:Nat)(hn:t.L.length≤1048576)(hn2:S.length≤1048576)(hB:B≤w.heap.size)(hD:bj w db B t u a cap)(hS:dh w br S S.length)(hb:∀y,br=some y→y.block<w.heap.size)(hdr:S.length≤dr)(hd9:dr≤9223372036854775807):
  Calls Tryz.prog 32 #[.pointer (some ⟨db,0,none⟩),.slice br S.length dr] w fun e w'=>e=.returned (.string (dD t S).2)∧(∃a' cap',bj w' db B (dD t S).1 u a' cap')∧w.grownBy w' (some db):=by
 obtain⟨u1,u2,u3,u4⟩:=u;obtain⟨L,lim,mode,A,B',C,D,coast,fr⟩:=t;dsimp only at hn hD ⊢;have cL:=yz (vE L S lim mode A B' C D coast fr a cap br dr w hn hn2 hD.sky.stars hS (gX hD.sky) hb hdr hd9);have HC:Hid (dD ⟨L,lim,mode,A,B',C,D,coast,fr⟩ S=if ei ⟨L,lim,mode,A,B',C,D,coast,fr⟩ S=0 then (dP ⟨L,lim,mode,A,B',C,D,coast,fr⟩ S,eG (dP ⟨L,lim,mode,A,B',C,D,coast,fr⟩ S).mode.toNat) else (⟨L,lim,mode,A,B',C,D,coast,fr⟩,gm (ei ⟨L,lim,mode,A,B',C,D,coast,fr⟩ S).toNat)):=yz rfl;have hsp:=mr ⟨L,lim,mode,A,B',C,D,coast,fr⟩ S;have hmo:=kg (t:=⟨L,lim,mode,A,B',C,D,coast,fr⟩) (S:=S);generalize dD ⟨L,lim,mode,A,B',C,D,coast,fr⟩ S=R at *;generalize ei ⟨L,lim,mode,A,B',C,D,coast,fr⟩ S=code at *;generalize dP ⟨L,lim,mode,A,B',C,D,coast,fr⟩ S=t2 at *;obtain⟨L2,l2,m2,A2,B2,C2,D2,o2,f2⟩:=t2;dsimp only at hmo;have HD:=yz hD;have d0:=hD.blk.cell 0 _ rfl;have d1:=hD.blk.cell 1 _ rfl;have d2:=hD.blk.cell 2 _ rfl;have d3:=hD.blk.cell 3 _ rfl;have d4:=hD.blk.cell 4 _ rfl;have d5:=hD.blk.cell 5 _ rfl;have d6:=hD.blk.cell 6 _ rfl;have d7:=hD.blk.cell 7 _ rfl;have d8:=hD.blk.cell 8 _ rfl;clear hD;go_enter Tryz.func32,Tryz.ntmps32;go_wp2_with fail;refine(yy cL).mono ?_;rintro e W1 ⟨⟨a2,cap2,rfl,hC2⟩,hx⟩;have Z:=an W1 (.cells #[.slice a2 L2.length cap2,J Y l2,J Y m2,J Y A2,J Y B2,J Y C2,J Y D2,J Y o2,J Y f2,J Y code] 47);have X1:=aq W1 [.slice a2 L2.length cap2,J Y l2,J Y m2,J Y A2,J Y B2,J Y C2,J Y D2,J Y o2,J Y f2,J Y code] 47;have HB2:=yz (ak hx Z);have HC2:=yz (hC2.kept Z);have hxb:w.heap.size≤W1.heap.size:=hx.size;have hdl:db<w.heap.size:=(yy HD).lt;have x9:=X1.cell 9 _ rfl;clear d0 d1 d2 d3 d4 d5 d6 d7 d8 hC2 hx Z;by_cases hc:code=0
 ·subst hc;rw[if_pos rfl]at HC;obtain⟨m0,m1⟩:=hmo rfl;have HE:=(yy HD).kept (yy HB2);have e0:=HE.blk.cell 0 _ rfl;have f0':=HE.blk.free 0;have e1:=HE.blk.cell 1 _ rfl;have f1':=HE.blk.free 1;have e2:=HE.blk.cell 2 _ rfl;have f2':=HE.blk.free 2;have e3:=HE.blk.cell 3 _ rfl;have f3':=HE.blk.free 3;have e4:=HE.blk.cell 4 _ rfl;have f4':=HE.blk.free 4;have e5:=HE.blk.cell 5 _ rfl;have f5':=HE.blk.free 5;have e6:=HE.blk.cell 6 _ rfl;have f6':=HE.blk.free 6;have e7:=HE.blk.cell 7 _ rfl;have f7':=HE.blk.free 7;have e8:=HE.blk.cell 8 _ rfl;have f8':=HE.blk.free 8;obtain⟨n,rfl⟩:=Int.eq_ofNat_of_zero_le m0;go_wp2_with fail;obtain⟨HP,hg⟩:=bj.put9 HE ⟨L2,l2,n,A2,B2,C2,D2,o2,f2⟩ a2 cap2 (dm (yy HC2) hB) (fun x e=>by have:=(ck (yy HC2) x e).1;omega);dsimp only at HP hg;refine(fj n _ (by omega)).mono ?_;rintro e W3 ⟨rfl,hx3⟩;have HP3:=yz (HP.kept hx3);have hg3:=yz (bZ (bZ (aV (yy HB2)) hg) (aV hx3));clear HP hg hx3 HE;go_wp2_with fail;go_ret;rw[yy HC];exact⟨rfl,⟨_,_,yy HP3⟩,yy hg3⟩
 ·rw[if_neg hc]at HC;obtain⟨n,rfl⟩:=Int.eq_ofNat_of_zero_le hsp.1;go_wp2_with fail;refine(im n _ (by omega)).mono ?_;rintro e W3 ⟨rfl,hx3⟩;have HB3:=ax HB2 hx3;go_wp2_with fail;go_ret;rw[yy HC];exact⟨rfl,⟨_,_,(yy HD).kept (yy HB3)⟩,aV (yy HB3)⟩
end
section
open Go.Value renaming int → J
open Go.IntKind renaming i64 → Z
open Go.RowKit Go.Sort
def rd1(s:ByteArray):Int:=en s (aL s).a
def rd2(s:ByteArray):Int:=en s (aL s).b
def rd3(s:ByteArray):Int:=en s (aL s).c
def rd4(s:ByteArray):Int:=en s (aL s).d
def eR:ByteArray:=⟨#[111,107]⟩
def ik(s:ByteArray)(u:U4):Int:=coK (rd1 s) (rd2 s) (rd3 s) (rd4 s) u.1 u.2.1 u.2.2.1 u.2.2.2
def yu(s:ByteArray)(u:U4):U4:=(mV (rd1 s) (rd2 s) (rd3 s) (rd4 s) u.1 u.2.1 u.2.2.1 u.2.2.2,mW (rd1 s) (rd2 s) (rd3 s) (rd4 s) u.1 u.2.1 u.2.2.1 u.2.2.2,mX (rd1 s) (rd2 s) (rd3 s) (rd4 s) u.1 u.2.1 u.2.2.1 u.2.2.2,mY (rd1 s) (rd2 s) (rd3 s) (rd4 s) u.1 u.2.1 u.2.2.1 u.2.2.2)
def bB(t:Tk)(u:U4)(s:ByteArray)(told:Bool):(Tk×U4)×ByteArray:=
 if ez s=0 then (if ik s u=0 then ((if told=true then go t (rd1 s) (rd2 s) (rd3 s) (rd4 s) else t,yu s u),eR) else ((t,u),gm (ik s u).toNat)) else ((t,u),gm (ez s).toNat)
theorem kl(s:ByteArray):0≤ez s∧ez s≤9:=by
 unfold ez;split
 ·split<;>omega
 ·omega
theorem mT(a b c d e f g h:Int):0≤coK a b c d e f g h∧coK a b c d e f g h≤9:=by
 unfold coK ofC;repeat' split
 all_goals omega
theorem sF(s:ByteArray)(w:World)(hs:s.size≤9223372036854775807):
  Calls Tryz.prog 50 #[.string s] w fun e w'=>e=.returned (.agg #[J Z (rd1 s),J Z (rd2 s),J Z (rd3 s),J Z (rd4 s),J Z (ez s)])∧Below w.heap.size w w':=vF s w hs
theorem oQ(g1 g2 g3 g4 a b c d:Int)(w:World):
  Calls Tryz.prog 51 #[.agg #[J Z g1,J Z g2,J Z g3,J Z g4],.agg #[J Z a,J Z b,J Z c,J Z d]] w fun e w'=>e=.returned (.agg #[J Z (mV g1 g2 g3 g4 a b c d),J Z (mW g1 g2 g3 g4 a b c d),J Z (mX g1 g2 g3 g4 a b c d),J Z (mY g1 g2 g3 g4 a b c d),J Z (coK g1 g2 g3 g4 a b c d)])∧Below w.heap.size w w':=pK g1 g2 g3 g4 a b c d w
variable {xb:Nat} {v0 v1 v2 v3 v4:Value} {W w:World}
theorem bj.put4{db B:Nat}{t:Tk}{u:U4}{a:Option Addr}{cap:Nat}(h:bj W db B t u a cap)(x1 x2 x3 x4:Int):bj ((((W.setCell ⟨db,9,none⟩ (J Z x1)).setCell ⟨db,10,none⟩ (J Z x2)).setCell ⟨db,11,none⟩ (J Z x3)).setCell ⟨db,12,none⟩ (J Z x4)) db B t (x1,x2,x3,x4) a cap∧W.grownBy ((((W.setCell ⟨db,9,none⟩ (J Z x1)).setCell ⟨db,10,none⟩ (J Z x2)).setCell ⟨db,11,none⟩ (J Z x3)).setCell ⟨db,12,none⟩ (J Z x4)) (some db):=by
 have hg:W.grownBy ((((W.setCell ⟨db,9,none⟩ (J Z x1)).setCell ⟨db,10,none⟩ (J Z x2)).setCell ⟨db,11,none⟩ (J Z x3)).setCell ⟨db,12,none⟩ (J Z x4)) (some db):=aF (aF (aF (aF (aV (Below.refl _ _)) 9 _) 10 _) 11 _) 12 _;exact⟨⟨Blk.set (Blk.set (Blk.set (Blk.set h.blk 9 (J Z x1)) 10 (J Z x2)) 11 (J Z x3)) 12 (J Z x4),dH h.sky hg h.far,h.far⟩,hg⟩
theorem wm{t:TypeId}(h:Blk W xb [v0,v1,v2,v3,v4] t)(x0 x1 x2 x3 x4:Value):Blk (((((W.setCell ⟨xb,0,none⟩ x0).setCell ⟨xb,1,none⟩ x1).setCell ⟨xb,2,none⟩ x2).setCell ⟨xb,3,none⟩ x3).setCell ⟨xb,4,none⟩ x4) xb [x0,x1,x2,x3,x4] t:=Blk.set (Blk.set (Blk.set (Blk.set (Blk.set h 0 x0) 1 x1) 2 x2) 3 x3) 4 x4
theorem qn{n:Nat}(h:Below n w W)(hx:n≤xb)(x0 x1 x2 x3 x4:Value):Below n w (((((W.setCell ⟨xb,0,none⟩ x0).setCell ⟨xb,1,none⟩ x1).setCell ⟨xb,2,none⟩ x2).setCell ⟨xb,3,none⟩ x3).setCell ⟨xb,4,none⟩ x4):=((((h.setCell hx _).setCell hx _).setCell hx _).setCell hx _).setCell hx _
theorem AH{t:TypeId}{v5 v6 v7 v8 v9:Value}(h:Blk W xb [v0,v1,v2,v3,v4,v5,v6,v7,v8,v9] t)(x0 x1 x2 x3 x4 x5 x6 x7 x8 x9:Value):Blk ((((((((((W.setCell ⟨xb,0,none⟩ x0).setCell ⟨xb,1,none⟩ x1).setCell ⟨xb,2,none⟩ x2).setCell ⟨xb,3,none⟩ x3).setCell ⟨xb,4,none⟩ x4).setCell ⟨xb,5,none⟩ x5).setCell ⟨xb,6,none⟩ x6).setCell ⟨xb,7,none⟩ x7).setCell ⟨xb,8,none⟩ x8).setCell ⟨xb,9,none⟩ x9) xb [x0,x1,x2,x3,x4,x5,x6,x7,x8,x9] t:=Blk.set (Blk.set (Blk.set (Blk.set (Blk.set (Blk.set (Blk.set (Blk.set (Blk.set (Blk.set h 0 x0) 1 x1) 2 x2) 3 x3) 4 x4) 5 x5) 6 x6) 7 x7) 8 x8) 9 x9
theorem wk{n:Nat}(h:Below n w W)(hx:n≤xb)(x0 x1 x2 x3 x4 x5 x6 x7 x8 x9:Value):Below n w ((((((((((W.setCell ⟨xb,0,none⟩ x0).setCell ⟨xb,1,none⟩ x1).setCell ⟨xb,2,none⟩ x2).setCell ⟨xb,3,none⟩ x3).setCell ⟨xb,4,none⟩ x4).setCell ⟨xb,5,none⟩ x5).setCell ⟨xb,6,none⟩ x6).setCell ⟨xb,7,none⟩ x7).setCell ⟨xb,8,none⟩ x8).setCell ⟨xb,9,none⟩ x9):=(((((((((h.setCell hx _).setCell hx _).setCell hx _).setCell hx _).setCell hx _).setCell hx _).setCell hx _).setCell hx _).setCell hx _).setCell hx _
theorem kX(w:World)(db B:Nat)(t:Tk)(u:U4)(a:Option Addr)(cap:Nat)(s:ByteArray)(told:Bool)(hn:t.L.length≤1048576)(hs:s.size≤9223372036854775807)(hB:B≤w.heap.size)(hD:bj w db B t u a cap):
  Calls Tryz.prog 31 #[.pointer (some ⟨db,0,none⟩),.string s,.bool told] w fun e w'=>e=.returned (.string (bB t u s told).2)∧(∃a' cap',bj w' db B (bB t u s told).1.1 (bB t u s told).1.2 a' cap')∧w.grownBy w' (some db):=by
 have HC:Hid (bB t u s told=if ez s=0 then (if ik s u=0 then ((if told=true then go t (rd1 s) (rd2 s) (rd3 s) (rd4 s) else t,yu s u),eR) else ((t,u),gm (ik s u).toNat)) else ((t,u),gm (ez s).toNat)):=yz rfl;have cR:=yz (sF s w hs);have hsp1:=kl s;have hsp2:0≤ik s u∧ik s u≤9:=mT _ _ _ _ _ _ _ _;unfold yu ik at HC;unfold ik at hsp2;generalize bB t u s told=R at *;generalize rd1 s=g1 at *;generalize rd2 s=g2 at *;generalize rd3 s=g3 at *;generalize rd4 s=g4 at *;generalize ez s=gc at *;obtain⟨u1,u2,u3,u4⟩:=u;obtain⟨L,lim,mode,A,B',C,D,coast,fr⟩:=t;dsimp only at hn hD HC hsp2;have cC:=yz (fun W=>oQ g1 g2 g3 g4 u1 u2 u3 u4 W);have cG:=yz (fun W h=>vz L lim mode A B' C D coast fr g1 g2 g3 g4 a cap W hn h);generalize mV g1 g2 g3 g4 u1 u2 u3 u4=x1 at *;generalize mW g1 g2 g3 g4 u1 u2 u3 u4=x2 at *;generalize mX g1 g2 g3 g4 u1 u2 u3 u4=x3 at *;generalize mY g1 g2 g3 g4 u1 u2 u3 u4=x4 at *;generalize coK g1 g2 g3 g4 u1 u2 u3 u4=xk at *;generalize go ⟨L,lim,mode,A,B',C,D,coast,fr⟩ g1 g2 g3 g4=t2 at *;generalize iZ ⟨L,lim,mode,A,B',C,D,coast,fr⟩ g1 g2 g3 g4=yc at *;obtain⟨L2,l2,m2,A2,B2,C2,D2,o2,f2⟩:=t2;have HD:=yz hD;clear hD;go_enter Tryz.func31,Tryz.ntmps31;go_wp2_with fail;refine(yy cR).mono ?_;rintro e W1 ⟨rfl,hx⟩;have HX1:=yz (aq W1 [J Z g1,J Z g2,J Z g3,J Z g4,J Z gc] 108);have HB1:=yz (ak hx (an W1 (.cells #[J Z g1,J Z g2,J Z g3,J Z g4,J Z gc] 108)));have hgb:w.heap.size≤W1.heap.size:=hx.size;have x4':=(yy HX1).cell 4 _ rfl;clear hx cR;by_cases hc:gc=0
 case neg=>
  rw[if_neg hc]at HC;obtain⟨n,rfl⟩:=Int.eq_ofNat_of_zero_le hsp1.1;go_wp2_with fail;refine(im n _ (by omega)).mono ?_;rintro e W3 ⟨rfl,hx3⟩;have HB3:=ax HB1 hx3;go_wp2_with fail;go_ret;rw[yy HC];exact⟨rfl,⟨_,_,(yy HD).kept (yy HB3)⟩,aV (yy HB3)⟩
 subst hc;rw[if_pos rfl]at HC;go_upto_region 4 with fail;have hdl:db<w.heap.size:=(yy HD).lt;generalize W1.alloc (.cells #[J Z g1,J Z g2,J Z g3,J Z g4,J Z 0] 108)=W at *;generalize W1.heap.size=gb at *;clear x4';have HDW:=ap HD (yy HB1);have hgl:gb<W.heap.size:=(yy HX1).lt;have hdl2:db<W.heap.size:=(yy HDW).lt;obtain⟨k0,k1,k2,k3⟩:=wj (yy HX1);have k9:=(yy HDW).blk.cell 9 _ rfl;have k10:=(yy HDW).blk.cell 10 _ rfl;have k11:=(yy HDW).blk.cell 11 _ rfl;have k12:=(yy HDW).blk.cell 12 _ rfl;have HKS:Hid (∀w':World,Below W.heap.size W w'→(w'.cell? ⟨gb,0,none⟩=some (J Z g1)∧w'.cell? ⟨gb,1,none⟩=some (J Z g2)∧w'.cell? ⟨gb,2,none⟩=some (J Z g3)∧w'.cell? ⟨gb,3,none⟩=some (J Z g4))∧(w'.cell? ⟨db,9,none⟩=some (J Z u1)∧w'.cell? ⟨db,10,none⟩=some (J Z u2)∧w'.cell? ⟨db,11,none⟩=some (J Z u3)∧w'.cell? ⟨db,12,none⟩=some (J Z u4))):=yz (fun w' h=>⟨⟨by rw[h.cell hgl];exact k0,by rw[h.cell hgl];exact k1,by rw[h.cell hgl];exact k2,by rw[h.cell hgl];exact k3⟩,⟨by rw[h.cell hdl2];exact k9,by rw[h.cell hdl2];exact k10,by rw[h.cell hdl2];exact k11,by rw[h.cell hdl2];exact k12⟩⟩);go_cut [8] (fun sv wx=>∃xb,sv=.pointer (some ⟨xb,0,none⟩)∧Blk wx xb [J Z x1,J Z x2,J Z x3,J Z x4,J Z xk] 108∧W.heap.size≤xb∧Below W.heap.size W wx)
 case first=>
  refine wp_region_held_drew (S:=(fun w'=>(w'.cell? ⟨gb,0,none⟩=some (J Z g1)∧w'.cell? ⟨gb,1,none⟩=some (J Z g2)∧w'.cell? ⟨gb,2,none⟩=some (J Z g3)∧w'.cell? ⟨gb,3,none⟩=some (J Z g4))∧(w'.cell? ⟨db,9,none⟩=some (J Z u1)∧w'.cell? ⟨db,10,none⟩=some (J Z u2)∧w'.cell? ⟨db,11,none⟩=some (J Z u3)∧w'.cell? ⟨db,12,none⟩=some (J Z u4)))) (by kernel_rfl) (yy HKS W (Below.refl _ _)) (fun hHeld=>?_);clear k0 k1 k2 k3 k9 k10 k11 k12;refine ac 0 rfl ?_;try simp only[Act.put,ah,ai,aj]
  refine ac 1 rfl ?_;try simp only[Act.put,ah,ai,aj]
  refine ac 2 rfl ?_;try simp only[Act.put,ah,ai,aj]
  refine ac 3 rfl ?_;try simp only[Act.put,ah,ai,aj]
  refine ac 4 rfl ?_;try simp only[Act.put,ah,ai,aj]
  refine ac 5 rfl ?_;try simp only[Act.put,ah,ai,aj]
  refine ag 6 7 rfl (fun K hK=>?_) rfl fun K hK=>?_
  ·go_simp;refine((yy cC) W.drew).mono ?_;rintro e V1 ⟨rfl,hx⟩;have HV1:Hid (Below W.heap.size W V1):=yz ((Below.refl W.heap.size W).drew.trans hx);clear hx;refine hK.out _ _ (yy HKS _ (yy HV1)) (fun hHeld1=>?_);clear hK K hHeld;refine af 7 rfl fun K hK=>?_;go_simp;have HV2:=yz (ak (yy HV1) (an V1 (.cells #[J Z 0,J Z 0,J Z 0,J Z 0,J Z 0] 108)));have HX2:=yz (aq V1 [J Z 0,J Z 0,J Z 0,J Z 0,J Z 0] 108);have hxb:W.heap.size≤V1.heap.size:=(yy HV1).size;generalize V1.alloc (.cells #[J Z 0,J Z 0,J Z 0,J Z 0,J Z 0] 108)=V2 at *;generalize V1.heap.size=xb at *;refine hK.out _ _ (yy HKS _ (yy HV2)) (fun hHeld=>?_);clear hK K hHeld1;have c0:=(yy HX2).cell 0 _ rfl;have z0:=(yy HX2).free 0;have c1:=(yy HX2).cell 1 _ rfl;have z1:=(yy HX2).free 1;have c2:=(yy HX2).cell 2 _ rfl;have z2:=(yy HX2).free 2;have c3:=(yy HX2).cell 3 _ rfl;have z3:=(yy HX2).free 3;have c4:=(yy HX2).cell 4 _ rfl;have z4:=(yy HX2).free 4;refine af 8 rfl fun K hK=>?_;go_simp;have HX3:=yz (wm (yy HX2) (J Z x1) (J Z x2) (J Z x3) (J Z x4) (J Z xk));have HV3:=yz (qn (yy HV2) hxb (J Z x1) (J Z x2) (J Z x3) (J Z x4) (J Z xk));refine hK.out _ _ (yy HKS _ (yy HV3)) (fun hHeld1=>?_);clear hK K hHeld;refine wpAnyH_done (by kernel_rfl) ?_ _;clear hHeld1 c0 c1 c2 c3 c4 z0 z1 z2 z3 z4;go_wp2_with fail;go_meet
   exact⟨_,rfl,yy HX3,hxb,yy HV3⟩
  ·go_simp;have HV1:Hid (Below W.heap.size W (W.drew.alloc (.cells #[J Z 0,J Z 0,J Z 0,J Z 0,J Z 0] 108))):=yz ((Below.refl W.heap.size W).drew.trans (an W.drew (.cells #[J Z 0,J Z 0,J Z 0,J Z 0,J Z 0] 108)));have HX1':Hid (Blk (W.drew.alloc (.cells #[J Z 0,J Z 0,J Z 0,J Z 0,J Z 0] 108)) W.heap.size [J Z 0,J Z 0,J Z 0,J Z 0,J Z 0] 108):=yz (aq W.drew [J Z 0,J Z 0,J Z 0,J Z 0,J Z 0] 108);refine hK.out _ _ (yy HKS _ (yy HV1)) (fun hHeld1=>?_);clear hK K hHeld;refine af 6 rfl fun K hK=>?_;go_simp;refine((yy cC) _).mono ?_;rintro e V2 ⟨rfl,hx⟩;have HV2:=ax HV1 hx;have HX2:=ap HX1' hx;clear hx HX1';refine hK.out _ _ (yy HKS _ (yy HV2)) (fun hHeld=>?_);clear hK K hHeld1;have c0:=(yy HX2).cell 0 _ rfl;have z0:=(yy HX2).free 0;have c1:=(yy HX2).cell 1 _ rfl;have z1:=(yy HX2).free 1;have c2:=(yy HX2).cell 2 _ rfl;have z2:=(yy HX2).free 2;have c3:=(yy HX2).cell 3 _ rfl;have z3:=(yy HX2).free 3;have c4:=(yy HX2).cell 4 _ rfl;have z4:=(yy HX2).free 4;refine af 8 rfl fun K hK=>?_;go_simp;have HX3:=yz (wm (yy HX2) (J Z x1) (J Z x2) (J Z x3) (J Z x4) (J Z xk));have HV3:=yz (qn (yy HV2) (Nat.le_refl _) (J Z x1) (J Z x2) (J Z x3) (J Z x4) (J Z xk));refine hK.out _ _ (yy HKS _ (yy HV3)) (fun hHeld1=>?_);clear hK K hHeld;refine wpAnyH_done (by kernel_rfl) ?_ _;clear hHeld1 c0 c1 c2 c3 c4 z0 z1 z2 z3 z4;go_wp2_with fail;go_meet
   exact⟨_,rfl,yy HX3,Nat.le_refl _,yy HV3⟩
 case rest=>
 obtain⟨xb,rfl,hX,hxb,hx⟩:=hcut;have HX:=yz hX;have HBc:=ax HB1 hx;have HDc:=ap HDW hx;have HGc:=ap HX1 hx;have c4:=(yy HX).cell 4 _ rfl;clear hX hx HKS HDW HX1 HB1 k0 k1 k2 k3 k9 k10 k11 k12;by_cases hc:xk=0
 case neg=>
  rw[if_neg hc]at HC;obtain⟨n,rfl⟩:=Int.eq_ofNat_of_zero_le hsp2.1;go_wp2_with fail;refine(im n _ (by omega)).mono ?_;rintro e W3 ⟨rfl,hx3⟩;have HB3:=ax HBc hx3;go_wp2_with fail;go_ret;rw[yy HC];exact⟨rfl,⟨_,_,(yy HD).kept (yy HB3)⟩,aV (yy HB3)⟩
 subst hc;rw[if_pos rfl]at HC;have hwc:w.heap.size≤wc.heap.size:=(yy HBc).size;have hdc:db<wc.heap.size:=(yy HDc).lt;have hgc:gb<wc.heap.size:=(yy HGc).lt;have hxc:xb<wc.heap.size:=(yy HX).lt;have hne:db≠xb:=by omega
 have d0:=(yy HDc).blk.cell 0 _ rfl;have d1:=(yy HDc).blk.cell 1 _ rfl;have d2:=(yy HDc).blk.cell 2 _ rfl;have d3:=(yy HDc).blk.cell 3 _ rfl;have d4:=(yy HDc).blk.cell 4 _ rfl;have d5:=(yy HDc).blk.cell 5 _ rfl;have d6:=(yy HDc).blk.cell 6 _ rfl;have d7:=(yy HDc).blk.cell 7 _ rfl;have d8:=(yy HDc).blk.cell 8 _ rfl;cases told with
 | false=>
  go_upto_region 10 with fail;have HY6:=yz (aq wc [.slice a L.length cap,J Z lim,J Z mode,J Z A,J Z B',J Z C,J Z D,J Z coast,J Z fr,J Z 0] 47);have HB6:=yz (an wc (.cells #[.slice a L.length cap,J Z lim,J Z mode,J Z A,J Z B',J Z C,J Z D,J Z coast,J Z fr,J Z 0] 47));have HC6:=yz ((yy HDc).sky.kept (yy HB6));have HF:=(yy HDc).far;clear d0 d1 d2 d3 d4 d5 d6 d7 d8;generalize wc.alloc (.cells #[.slice a L.length cap,J Z lim,J Z mode,J Z A,J Z B',J Z C,J Z D,J Z coast,J Z fr,J Z 0] 47)=W6 at *;have HE:=ap HDc (yy HB6);have HX6:=ap HX (yy HB6);obtain⟨c0,c1,c2,c3⟩:=wj (yy HX6);have e9:=(yy HE).blk.cell 9 _ rfl;have z9:=(yy HE).blk.free 9;have e10:=(yy HE).blk.cell 10 _ rfl;have z10:=(yy HE).blk.free 10;have e11:=(yy HE).blk.cell 11 _ rfl;have z11:=(yy HE).blk.free 11;have e12:=(yy HE).blk.cell 12 _ rfl;have z12:=(yy HE).blk.free 12;go_upto_region 11 with fail;clear c0 c1 c2 c3 e9 e10 e11 e12 z9 z10 z11 z12;obtain⟨HP4,hg4⟩:=bj.put4 (yy HE) x1 x2 x3 x4;have HY7:=yz (Blk.grown (yy HY6) hg4 (fun e=>by have:=Option.some.inj e;omega));have HC7:=yz (dH (yy HC6) hg4 (HF));have HG7:=yz (bZ (aV (yy HBc)) (bZ (aV (yy HB6)) hg4));have HP7:=yz HP4;clear HP4 hg4;generalize (((W6.setCell ⟨db,9,none⟩ (J Z x1)).setCell ⟨db,10,none⟩ (J Z x2)).setCell ⟨db,11,none⟩ (J Z x3)).setCell ⟨db,12,none⟩ (J Z x4)=W7 at *;have y0:=(yy HY7).cell 0 _ rfl;have e0:=(yy HP7).blk.cell 0 _ rfl;have z0:=(yy HP7).blk.free 0;have y1:=(yy HY7).cell 1 _ rfl;have e1:=(yy HP7).blk.cell 1 _ rfl;have z1:=(yy HP7).blk.free 1;have y2:=(yy HY7).cell 2 _ rfl;have e2:=(yy HP7).blk.cell 2 _ rfl;have z2:=(yy HP7).blk.free 2;have y3:=(yy HY7).cell 3 _ rfl;have e3:=(yy HP7).blk.cell 3 _ rfl;have z3:=(yy HP7).blk.free 3;have y4:=(yy HY7).cell 4 _ rfl;have e4:=(yy HP7).blk.cell 4 _ rfl;have z4:=(yy HP7).blk.free 4;have y5:=(yy HY7).cell 5 _ rfl;have e5:=(yy HP7).blk.cell 5 _ rfl;have z5:=(yy HP7).blk.free 5;have y6:=(yy HY7).cell 6 _ rfl;have e6:=(yy HP7).blk.cell 6 _ rfl;have z6:=(yy HP7).blk.free 6;have y7:=(yy HY7).cell 7 _ rfl;have e7:=(yy HP7).blk.cell 7 _ rfl;have z7:=(yy HP7).blk.free 7;have y8:=(yy HY7).cell 8 _ rfl;have e8:=(yy HP7).blk.cell 8 _ rfl;have z8:=(yy HP7).blk.free 8;go_wp2_with fail;obtain⟨HP,hg⟩:=bj.put9 (yy HP7) ⟨L,lim,mode,A,B',C,D,coast,fr⟩ a cap (yy HC7) (HF);dsimp only at HP hg;have HP8:=yz HP;have HG8:=yz (bZ (yy HG7) hg);clear HP hg;go_ret;rw[yy HC];exact⟨rfl,⟨_,_,yy HP8⟩,yy HG8⟩
 | true=>
  go_upto_region 9 with fail;have HY5:=yz (aq wc [.slice a L.length cap,J Z lim,J Z mode,J Z A,J Z B',J Z C,J Z D,J Z coast,J Z fr,J Z 0] 47);have HB5:=yz (an wc (.cells #[.slice a L.length cap,J Z lim,J Z mode,J Z A,J Z B',J Z C,J Z D,J Z coast,J Z fr,J Z 0] 47));have h5:wc.heap.size<(wc.alloc (.cells #[.slice a L.length cap,J Z lim,J Z mode,J Z A,J Z B',J Z C,J Z D,J Z coast,J Z fr,J Z 0] 47)).heap.size:=(yy HY5).lt;obtain⟨k0,k1,k2,k3⟩:=wj (yy HGc);have HKS:Hid (∀w':World,Below wc.heap.size wc w'→(w'.cell? ⟨db,0,none⟩=some (.slice a L.length cap)∧w'.cell? ⟨db,1,none⟩=some (J Z lim)∧w'.cell? ⟨db,2,none⟩=some (J Z mode)∧w'.cell? ⟨db,3,none⟩=some (J Z A)∧w'.cell? ⟨db,4,none⟩=some (J Z B')∧w'.cell? ⟨db,5,none⟩=some (J Z C)∧w'.cell? ⟨db,6,none⟩=some (J Z D)∧w'.cell? ⟨db,7,none⟩=some (J Z coast)∧w'.cell? ⟨db,8,none⟩=some (J Z fr))∧(w'.cell? ⟨gb,0,none⟩=some (J Z g1)∧w'.cell? ⟨gb,1,none⟩=some (J Z g2)∧w'.cell? ⟨gb,2,none⟩=some (J Z g3)∧w'.cell? ⟨gb,3,none⟩=some (J Z g4))):=yz (fun w' h=>⟨⟨by rw[h.cell hdc];exact d0,by rw[h.cell hdc];exact d1,by rw[h.cell hdc];exact d2,by rw[h.cell hdc];exact d3,by rw[h.cell hdc];exact d4,by rw[h.cell hdc];exact d5,by rw[h.cell hdc];exact d6,by rw[h.cell hdc];exact d7,by rw[h.cell hdc];exact d8⟩,⟨by rw[h.cell hgc];exact k0,by rw[h.cell hgc];exact k1,by rw[h.cell hgc];exact k2,by rw[h.cell hgc];exact k3⟩⟩);clear d0 d1 d2 d3 d4 d5 d6 d7 d8 k0 k1 k2 k3;generalize wc.alloc (.cells #[.slice a L.length cap,J Z lim,J Z mode,J Z A,J Z B',J Z C,J Z D,J Z coast,J Z fr,J Z 0] 47)=W5 at *;refine wp_region_held_drew (S:=(fun w'=>(w'.cell? ⟨db,0,none⟩=some (.slice a L.length cap)∧w'.cell? ⟨db,1,none⟩=some (J Z lim)∧w'.cell? ⟨db,2,none⟩=some (J Z mode)∧w'.cell? ⟨db,3,none⟩=some (J Z A)∧w'.cell? ⟨db,4,none⟩=some (J Z B')∧w'.cell? ⟨db,5,none⟩=some (J Z C)∧w'.cell? ⟨db,6,none⟩=some (J Z D)∧w'.cell? ⟨db,7,none⟩=some (J Z coast)∧w'.cell? ⟨db,8,none⟩=some (J Z fr))∧(w'.cell? ⟨gb,0,none⟩=some (J Z g1)∧w'.cell? ⟨gb,1,none⟩=some (J Z g2)∧w'.cell? ⟨gb,2,none⟩=some (J Z g3)∧w'.cell? ⟨gb,3,none⟩=some (J Z g4)))) (by kernel_rfl) (yy HKS W5 (yy HB5)) (fun hHeld=>?_);refine ac 0 rfl ?_;try simp only[Act.put,ah,ai,aj]
  refine ac 1 rfl ?_;try simp only[Act.put,ah,ai,aj]
  refine ac 2 rfl ?_;try simp only[Act.put,ah,ai,aj]
  refine ac 3 rfl ?_;try simp only[Act.put,ah,ai,aj]
  refine ac 4 rfl ?_;try simp only[Act.put,ah,ai,aj]
  refine ac 5 rfl ?_;try simp only[Act.put,ah,ai,aj]
  refine af 6 rfl fun K hK=>?_;go_simp;refine((yy cG) W5.drew ((yy HDc).sky.kept (yy HB5)).stars).mono ?_;rintro e V1 ⟨⟨a2,cap2,rfl,hC2⟩,hx⟩;have HV1:Hid (Below wc.heap.size wc V1):=yz (ak (yy HB5) ((Below.refl _ _).drew.trans hx));have HY1:Hid (Blk V1 wc.heap.size [.slice a L.length cap,J Z lim,J Z mode,J Z A,J Z B',J Z C,J Z D,J Z coast,J Z fr,J Z 0] 47):=yz ((yy HY5).kept ((Below.refl W5.heap.size W5).drew.trans hx));have HC1:Hid (aC V1 W5.heap.size L2 a2 cap2):=yz hC2;clear hx hC2;refine hK.out _ _ (yy HKS _ (yy HV1)) (fun hHeld1=>?_);clear hK K hHeld;have y0:=(yy HY1).cell 0 _ rfl;have z0:=(yy HY1).free 0;have y1:=(yy HY1).cell 1 _ rfl;have z1:=(yy HY1).free 1;have y2:=(yy HY1).cell 2 _ rfl;have z2:=(yy HY1).free 2;have y3:=(yy HY1).cell 3 _ rfl;have z3:=(yy HY1).free 3;have y4:=(yy HY1).cell 4 _ rfl;have z4:=(yy HY1).free 4;have y5:=(yy HY1).cell 5 _ rfl;have z5:=(yy HY1).free 5;have y6:=(yy HY1).cell 6 _ rfl;have z6:=(yy HY1).free 6;have y7:=(yy HY1).cell 7 _ rfl;have z7:=(yy HY1).free 7;have y8:=(yy HY1).cell 8 _ rfl;have z8:=(yy HY1).free 8;have y9:=(yy HY1).cell 9 _ rfl;have z9:=(yy HY1).free 9;refine af 7 rfl fun K hK=>?_;go_simp;have HY6:=yz (AH (yy HY1) (.slice a2 L2.length cap2) (J Z l2) (J Z m2) (J Z A2) (J Z B2) (J Z C2) (J Z D2) (J Z o2) (J Z f2) (J Z yc));have HB6:=yz (wk (yy HV1) (Nat.le_refl _) (.slice a2 L2.length cap2) (J Z l2) (J Z m2) (J Z A2) (J Z B2) (J Z C2) (J Z D2) (J Z o2) (J Z f2) (J Z yc));have hg6:V1.grownBy ((((((((((V1.setCell ⟨wc.heap.size,0,none⟩ (.slice a2 L2.length cap2)).setCell ⟨wc.heap.size,1,none⟩ (J Z l2)).setCell ⟨wc.heap.size,2,none⟩ (J Z m2)).setCell ⟨wc.heap.size,3,none⟩ (J Z A2)).setCell ⟨wc.heap.size,4,none⟩ (J Z B2)).setCell ⟨wc.heap.size,5,none⟩ (J Z C2)).setCell ⟨wc.heap.size,6,none⟩ (J Z D2)).setCell ⟨wc.heap.size,7,none⟩ (J Z o2)).setCell ⟨wc.heap.size,8,none⟩ (J Z f2)).setCell ⟨wc.heap.size,9,none⟩ (J Z yc)) (some wc.heap.size):=aF (aF (aF (aF (aF (aF (aF (aF (aF (aF (aV (Below.refl _ _)) 0 _) 1 _) 2 _) 3 _) 4 _) 5 _) 6 _) 7 _) 8 _) 9 _;have HF:∀x,a2=some x→x.block≠db:=fun x e=>by have:=(ck (yy HC1) x e).1;omega
  have HC6:=yz (dm (dH (yy HC1) hg6 (fun x e=>by have:=(ck (yy HC1) x e).1;omega)) (show B≤W5.heap.size by omega));refine hK.out _ _ (yy HKS _ (yy HB6)) (fun hHeld=>?_);clear hK K hHeld1 y0 y1 y2 y3 y4 y5 y6 y7 y8 y9 z0 z1 z2 z3 z4 z5 z6 z7 z8 z9 hg6;refine wpAnyH_done (by kernel_rfl) ?_ _;clear hHeld;generalize ((((((((((V1.setCell ⟨wc.heap.size,0,none⟩ (.slice a2 L2.length cap2)).setCell ⟨wc.heap.size,1,none⟩ (J Z l2)).setCell ⟨wc.heap.size,2,none⟩ (J Z m2)).setCell ⟨wc.heap.size,3,none⟩ (J Z A2)).setCell ⟨wc.heap.size,4,none⟩ (J Z B2)).setCell ⟨wc.heap.size,5,none⟩ (J Z C2)).setCell ⟨wc.heap.size,6,none⟩ (J Z D2)).setCell ⟨wc.heap.size,7,none⟩ (J Z o2)).setCell ⟨wc.heap.size,8,none⟩ (J Z f2)).setCell ⟨wc.heap.size,9,none⟩ (J Z yc))=W6 at *;clear HY1 HV1 HC1 HY5 HB5;have HE:=ap HDc (yy HB6);have HX6:=ap HX (yy HB6);obtain⟨c0,c1,c2,c3⟩:=wj (yy HX6);have e9:=(yy HE).blk.cell 9 _ rfl;have z9:=(yy HE).blk.free 9;have e10:=(yy HE).blk.cell 10 _ rfl;have z10:=(yy HE).blk.free 10;have e11:=(yy HE).blk.cell 11 _ rfl;have z11:=(yy HE).blk.free 11;have e12:=(yy HE).blk.cell 12 _ rfl;have z12:=(yy HE).blk.free 12;go_upto_region 11 with fail;clear c0 c1 c2 c3 e9 e10 e11 e12 z9 z10 z11 z12;obtain⟨HP4,hg4⟩:=bj.put4 (yy HE) x1 x2 x3 x4;have HY7:=yz (Blk.grown (yy HY6) hg4 (fun e=>by have:=Option.some.inj e;omega));have HC7:=yz (dH (yy HC6) hg4 (HF));have HG7:=yz (bZ (aV (yy HBc)) (bZ (aV (yy HB6)) hg4));have HP7:=yz HP4;clear HP4 hg4;generalize (((W6.setCell ⟨db,9,none⟩ (J Z x1)).setCell ⟨db,10,none⟩ (J Z x2)).setCell ⟨db,11,none⟩ (J Z x3)).setCell ⟨db,12,none⟩ (J Z x4)=W7 at *;have y0:=(yy HY7).cell 0 _ rfl;have e0:=(yy HP7).blk.cell 0 _ rfl;have z0:=(yy HP7).blk.free 0;have y1:=(yy HY7).cell 1 _ rfl;have e1:=(yy HP7).blk.cell 1 _ rfl;have z1:=(yy HP7).blk.free 1;have y2:=(yy HY7).cell 2 _ rfl;have e2:=(yy HP7).blk.cell 2 _ rfl;have z2:=(yy HP7).blk.free 2;have y3:=(yy HY7).cell 3 _ rfl;have e3:=(yy HP7).blk.cell 3 _ rfl;have z3:=(yy HP7).blk.free 3;have y4:=(yy HY7).cell 4 _ rfl;have e4:=(yy HP7).blk.cell 4 _ rfl;have z4:=(yy HP7).blk.free 4;have y5:=(yy HY7).cell 5 _ rfl;have e5:=(yy HP7).blk.cell 5 _ rfl;have z5:=(yy HP7).blk.free 5;have y6:=(yy HY7).cell 6 _ rfl;have e6:=(yy HP7).blk.cell 6 _ rfl;have z6:=(yy HP7).blk.free 6;have y7:=(yy HY7).cell 7 _ rfl;have e7:=(yy HP7).blk.cell 7 _ rfl;have z7:=(yy HP7).blk.free 7;have y8:=(yy HY7).cell 8 _ rfl;have e8:=(yy HP7).blk.cell 8 _ rfl;have z8:=(yy HP7).blk.free 8;go_wp2_with fail;obtain⟨HP,hg⟩:=bj.put9 (yy HP7) ⟨L2,l2,m2,A2,B2,C2,D2,o2,f2⟩ a2 cap2 (yy HC7) (HF);dsimp only at HP hg;have HP8:=yz HP;have HG8:=yz (bZ (yy HG7) hg);clear HP hg;go_ret;rw[yy HC];exact⟨rfl,⟨_,_,yy HP8⟩,yy HG8⟩
end
section
open Go.RowKit Go.Sort
def iP(ids:List Int):Nat→ByteArray
 | 0=>⟨#[]⟩
 | k+1=>(if 0<k then iP ids k ++ ⟨#[44]⟩ else iP ids k) ++ eG (ids.getD k 0).toNat
def rZ(t:Tk)(u:U4)(cone:Int):ByteArray:=if bD t.L (bf t.L u.1 u.2.1 u.2.2.1 u.2.2.2 cone)=0 then iP (bl t.L (bf t.L u.1 u.2.1 u.2.2.1 u.2.2.2 cone)) (bl t.L (bf t.L u.1 u.2.1 u.2.2.1 u.2.2.2 cone)).length else gm (bD t.L (bf t.L u.1 u.2.1 u.2.2.1 u.2.2.2 cone)).toNat
def jo(t:Tk):ByteArray:=if t.mode=0 then ⟨#[48,32,45]⟩ else (eG t.mode.toNat ++ ⟨#[32]⟩) ++ cy t.A t.B t.C t.D
def fJ(d:Tk×U4)(l:Ln):(Tk×U4)×ByteArray:=
 match l.k with
 | 0=>(((dD d.1 []).1,d.2),(dD d.1 []).2)
 | 1=>bB d.1 d.2 ⟨l.t.toArray⟩ false
 | 2=>(d,rZ d.1 d.2 l.n)
 | 3=>bB d.1 d.2 ⟨l.t.toArray⟩ true
 | 4=>((eF d.1,d.2),eR)
 | 5=>(((dD d.1 (bf d.1.L d.2.1 d.2.2.1 d.2.2.2.1 d.2.2.2.2 l.n)).1,d.2),(dD d.1 (bf d.1.L d.2.1 d.2.2.1 d.2.2.2.1 d.2.2.2.2 l.n)).2)
 | _=>(d,jo d.1)
def bV(t:Tk):Prop:=t.L.length≤400∧0≤t.mode∧t.mode≤2
theorem pV:bV fO:=⟨by decide,by decide,by decide⟩
theorem Ak{t:Tk}(h:bV t):bV (qY t):=⟨h.1,(by decide:(0:Int)≤0),(by decide:(0:Int)≤2)⟩
theorem EX{t:Tk}(h:bV t)(a b c d:Int):bV (go t a b c d):=by
 unfold go;split
 ·unfold ch;split
  ·exact h
  ·split
   ·exact h
   ·exact Ak h
 ·exact pV
theorem tK{t:Tk}(h:bV t)(u:U4)(s:ByteArray)(told:Bool):bV (bB t u s told).1.1:=by
 unfold bB;split
 ·split
  ·cases told
   ·exact h
   ·exact EX h _ _ _ _
  ·exact h
 ·exact h
theorem ER(t:Tk)(S:List D3):(dP t S).L.length≤t.L.length:=by
 unfold dP;split
 ·exact Nat.zero_le _
 ·split
  ·split
   ·exact Nat.zero_le _
   ·unfold dO vL bt qY;repeat' split
    all_goals exact Nat.le_refl _
  ·exact Nat.zero_le _
theorem Aj{t:Tk}(h:bV t)(S:List D3):bV (dD t S).1:=by
 unfold dD;split
 ·rename_i h0
  exact⟨Nat.le_trans (ER t S) h.1,kg h0⟩
 ·exact h
theorem Dy{t:Tk}(h:bV t):bV (eF t):=by
 unfold eF;split
 ·exact Ak h
 ·exact pV
theorem Ai{d:Tk×U4}(h:bV d.1)(l:Ln):bV (fJ d l).1.1:=by
 unfold fJ;split
 ·exact Aj h _
 ·exact tK h _ _ _
 ·exact h
 ·exact tK h _ _ _
 ·exact Dy h
 ·exact Aj h _
 ·exact h
theorem lj{n:Nat}(h:n≤1000000000):(gm n).size≤16:=by
 unfold gm;rw[ByteArray.size_append];have:=ec h;have e:(⟨#[101,114,114,111,114,32]⟩:ByteArray).size=6:=rfl;omega
theorem tp:∀(M:List (List Int)) (s:SeN),(M.foldl bM s).best∈M∨(M.foldl bM s).best=s.best
 | [],s=>.inr rfl
 | l :: M,s=>by
  rcases tp M (bM s l) with h | h
  ·exact .inl (List.mem_cons_of_mem _ h)
  ·have:(bM s l).best=l∨(bM s l).best=s.best:=by
    unfold bM;repeat' split
    all_goals first | exact .inl rfl | exact .inr rfl
   rcases this with e | e
   ·exact .inl (by show (M.foldl bM (bM s l)).best∈l :: M;rw[h,e];exact List.mem_cons_self ..)
   ·exact .inr (by show (M.foldl bM (bM s l)).best=s.best;rw[h,e])
theorem qj(F:List Int→Int→Bool)(A:List Int):∀(r:Nat) (ids l:List Int),l∈eN F A r ids→l.length=ids.length+r∧∀x∈l,x∈ids∨x∈A∨x=0
 | 0,ids,l,h=>by
  unfold eN at h;rw[List.mem_singleton]at h;subst h;exact⟨rfl,fun x hx=>.inl hx⟩
 | r+1,ids,l,h=>by
  unfold eN at h;rcases List.mem_append.1 h with h | h
  ·obtain⟨a,ha,hl⟩:=List.mem_flatMap.1 h;obtain⟨h1,h2⟩:=qj F A r (ids ++ [a]) l hl;have haA:a∈A:=(List.mem_filter.1 ha).1;refine⟨by rw[h1,List.length_append];simp;omega,fun x hx=>?_⟩;rcases h2 x hx with h3 | h3
   ·rcases List.mem_append.1 h3 with h4 | h4
    ·exact .inl h4
    ·rw[List.mem_singleton]at h4;subst h4;exact .inr (.inl haA)
   ·exact .inr h3
  ·obtain⟨h1,h2⟩:=qj F A r (ids ++ [0]) l h;refine⟨by rw[h1,List.length_append];simp;omega,fun x hx=>?_⟩;rcases h2 x hx with h3 | h3
   ·rcases List.mem_append.1 h3 with h4 | h4
    ·exact .inl h4
    ·rw[List.mem_singleton]at h4;exact .inr (.inr h4)
   ·exact .inr h3
theorem jV(L:List St)(S:List D3):(bl L S).length≤S.length∧∀x∈bl L S,0≤x∧x≤9999:=by
 unfold bl;split
 ·exact⟨Nat.zero_le _,fun x h=>by cases h⟩
 ·split
  ·rename_i _ hok
   unfold cj;split
   ·unfold idR;rw[jx];rcases tp (eN (dB L S) (L.map (·.1)) S.length []) ⟨[],3,0⟩ with h | h
    ·obtain⟨h1,h2⟩:=qj _ _ _ _ _ h;refine⟨by rw[h1];simp,fun x hx=>?_⟩;rcases h2 x hx with h3 | h3 | h3
     ·cases h3
     ·obtain⟨s,hs,rfl⟩:=List.mem_map.1 h3;have hk:bc L=true:=by unfold lN at hok;simp only[Bool.and_eq_true]at hok;exact hok.1
      obtain⟨i,hi,e⟩:=List.getElem_of_mem hs;have:=(cg hk).2 i hi;unfold eV idB at this;simp only[Bool.and_eq_true,decide_eq_true_eq]at this;have e2:stA L i=s:=by unfold stA;rw[List.getD_eq_getElem?_getD,List.getElem?_eq_getElem hi,e];rfl
      rw[e2]at this;omega
     ·subst h3;omega
    ·rw[h];exact⟨Nat.zero_le _,fun x h=>by cases h⟩
   ·exact⟨Nat.zero_le _,fun x h=>by cases h⟩
  ·exact⟨Nat.zero_le _,fun x h=>by cases h⟩
theorem lq{ids:List Int}(h:∀x∈ids,0≤x∧x≤9999):∀k,(iP ids k).size≤11*k
 | 0=>Nat.le_refl _
 | k+1=>by
  have ih:=lq h k
  have hd:(eG (ids.getD k 0).toNat).size≤10:=by
   refine ec ?_;by_cases hk:k<ids.length
   ·rw[List.getD_eq_getElem?_getD,List.getElem?_eq_getElem hk];have:=h _ (List.getElem_mem hk);simp only[Option.getD_some];omega
   ·rw[List.getD_eq_getElem?_getD,List.getElem?_eq_none (by omega)];decide
  unfold iP;rw[ByteArray.size_append];split
  ·rw[ByteArray.size_append,show (⟨#[44]⟩:ByteArray).size=1 from rfl];omega
  ·omega
theorem kK(L:List St)(S:List D3):0≤bD L S∧bD L S≤11:=by
 unfold bD bK;repeat' split
 all_goals omega
theorem Be(t:Tk)(u:U4)(cone:Int):(rZ t u cone).size≤70:=by
 unfold rZ;split
 ·obtain⟨h1,h2⟩:=jV t.L (bf t.L u.1 u.2.1 u.2.2.1 u.2.2.2 cone);have h3:=iI t.L u.1 u.2.1 u.2.2.1 u.2.2.2 cone;have:=lq h2 (bl t.L (bf t.L u.1 u.2.1 u.2.2.1 u.2.2.2 cone)).length;omega
 ·have h:=kK t.L (bf t.L u.1 u.2.1 u.2.2.1 u.2.2.2 cone);have:=lj (n:=(bD t.L (bf t.L u.1 u.2.1 u.2.2.1 u.2.2.2 cone)).toNat) (by omega);omega
theorem pQ(n:Int):(dig n).length≤2:=by unfold dig;split<;>simp
theorem jH(a b c d:Int):(cy a b c d).size≤11:=by
 unfold cy;split
 ·have h1:=pQ a;have h2:=pQ b;have h3:=pQ c;have h4:=pQ d;show (ft a b c d).toArray.size≤11;unfold ft;simp only[List.size_toArray,List.length_append,List.length_cons];omega
 ·exact Nat.zero_le _
theorem yd{t:Tk}(h:bV t):(jo t).size≤70:=by
 unfold jo;split
 ·decide
 ·have h1:=ec (n:=t.mode.toNat) (by have:=h.2;omega);have h2:=jH t.A t.B t.C t.D;rw[ByteArray.size_append,ByteArray.size_append,show (⟨#[32]⟩:ByteArray).size=1 from rfl];omega
theorem oa(t:Tk)(u:U4)(s:ByteArray)(told:Bool):(bB t u s told).2.size≤70:=by
 unfold bB;split
 ·split
  ·show eR.size≤70;decide
  ·have h:0≤ik s u∧ik s u≤9:=mT _ _ _ _ _ _ _ _;have:=lj (n:=(ik s u).toNat) (by omega);show (gm (ik s u).toNat).size≤70;omega
 ·have h:=kl s;have:=lj (n:=(ez s).toNat) (by omega);show (gm (ez s).toNat).size≤70;omega
theorem qU(t:Tk)(S:List D3):(dD t S).2.size≤70:=by
 unfold dD;split
 ·rename_i h0
  have h:=kg h0;have:=ec (n:=(dP t S).mode.toNat) (by omega);show (eG (dP t S).mode.toNat).size≤70;omega
 ·have h:=mr t S;have:=lj (n:=(ei t S).toNat) (by omega);show (gm (ei t S).toNat).size≤70;omega
theorem mp{d:Tk×U4}(h:bV d.1)(l:Ln):(fJ d l).2.size≤70:=by
 unfold fJ;split
 ·exact qU _ _
 ·exact oa _ _ _ _
 ·exact Be _ _ _
 ·exact oa _ _ _ _
 ·show eR.size≤70;decide
 ·exact qU _ _
 ·exact yd h
def stD(p:(Tk×U4)×ByteArray)(l:Ln):(Tk×U4)×ByteArray:=((fJ p.1 l).1,p.2 ++ ((fJ p.1 l).2 ++ ⟨#[10]⟩))
def ee:Tk×U4:=(iQ iV 2,(1,0,0,0))
def gB(ls:List Ln):(Tk×U4)×ByteArray:=ls.foldl stD (ee,⟨#[]⟩)
def dQ(s:ByteArray):ByteArray:=(gB (dJ s)).2
theorem BM(ls:List Ln)(l:Ln):gB (ls ++ [l])=stD (gB ls) l:=by unfold gB;rw[List.foldl_append];rfl
theorem xE:bV ee.1:=by
 unfold ee iQ;dsimp only;split
 ·exact pV
 ·split
  ·exact⟨by decide,by decide,by decide⟩
  ·exact pV
theorem iz{c:UInt8}:∀ {s p:List UInt8},p∈pcs c s→p.length≤s.length
 | [],p,h=>by unfold pcs at h;simp at h;rw[h];exact Nat.le_refl _
 | x :: xs,p,h=>by
  unfold pcs at h;split at h
  ·rcases List.mem_cons.1 h with h | h
   ·rw[h];exact Nat.zero_le _
   ·exact Nat.le_succ_of_le (iz h)
  ·rcases List.mem_cons.1 h with h | h
   ·rw[h];cases hp:pcs c xs with
    | nil=>exact absurd hp (kj _ _)
    | cons q r=>have:=iz (c:=c) (s:=xs) (p:=q) (by rw[hp];exact List.mem_cons_self ..);simp;exact this
   ·exact Nat.le_succ_of_le (iz (List.mem_of_mem_tail h))
theorem xG(c:UInt8):∀s:List UInt8,(pcs c s).length≤s.length+1
 | []=>Nat.le_refl _
 | x :: xs=>by
  have ih:=xG c xs;have hn:=kj c xs;unfold pcs;split
  ·simp;exact ih
  ·cases hp:pcs c xs with
   | nil=>exact absurd hp hn
   | cons q r=>rw[hp]at ih;simp at ih ⊢;omega
def ii(s:ByteArray)(done:List Ln):Prop:=eS s=match cx done.length ((pcs 10 s.data.toList).drop done.length) with | .inl ls=>.inl (done ++ ls) | .inr j=>.inr j
theorem yV(s:ByteArray):ii s []:=by
 unfold ii eS;show cx 0 (pcs 10 s.data.toList)=match cx 0 (pcs 10 s.data.toList) with | .inl ls=>.inl ([] ++ ls) | .inr j=>.inr j
 cases cx 0 (pcs 10 s.data.toList)<;>rfl
variable {s:ByteArray} {xs:List Value} {m:Nat} {t':TypeId} {v:Value} {w:World}
theorem Dj{done:List Ln}(h:ii s done)(hk:(pcs 10 s.data.toList).drop done.length=[[]]):eS s=.inl done:=by
 unfold ii at h;rw[hk]at h;rw[h];show (match (if ([]:List UInt8)=[] then (.inl []:List Ln ⊕ Nat) else .inr done.length) with | .inl ls=>(.inl (done ++ ls):List Ln ⊕ Nat) | .inr j=>.inr j)=_;rw[if_pos rfl];simp
theorem Bm{done:List Ln}{p:List UInt8}(h:ii s done)(hp:p≠[])(hk:(pcs 10 s.data.toList).drop done.length=[p]):eS s=.inr done.length:=by
 unfold ii at h;rw[hk]at h;rw[h];show (match (if p=[] then (.inl []:List Ln ⊕ Nat) else .inr done.length) with | .inl ls=>(.inl (done ++ ls):List Ln ⊕ Nat) | .inr j=>.inr j)=_;rw[if_neg hp]
theorem Di{done:List Ln}{p q:List UInt8}{r:List (List UInt8)}(h:ii s done)(hk:(pcs 10 s.data.toList).drop done.length=p :: q :: r)(hl:bq p=none):eS s=.inr done.length:=by
 unfold ii at h;rw[hk,cx,hl]at h;exact h
theorem Bj{done:List Ln}{p q:List UInt8}{r:List (List UInt8)}{l:Ln}(h:ii s done)(hk:(pcs 10 s.data.toList).drop done.length=p :: q :: r)(hl:bq p=some l)(h40:40≤done.length):eS s=.inr done.length:=by
 unfold ii at h;rw[hk,cx,hl]at h;simp only[if_pos h40]at h;exact h
theorem Bk{done:List Ln}{p q:List UInt8}{r:List (List UInt8)}{l:Ln}(h:ii s done)(hk:(pcs 10 s.data.toList).drop done.length=p :: q :: r)(hl:bq p=some l)(h40:¬40≤done.length):ii s (done ++ [l]):=by
 unfold ii at h ⊢
 have e:(pcs 10 s.data.toList).drop (done ++ [l]).length=q :: r:=by
  rw[List.length_append,←List.drop_drop,hk];rfl
 rw[e,h,hk,cx,hl];simp only[if_neg h40];rw[List.length_append];show (match (match cx (done.length+1) (q :: r) with | .inl ls=>(.inl (l :: ls):List Ln ⊕ Nat) | .inr j=>.inr j) with | .inl ls=>(.inl (done ++ ls):List Ln ⊕ Nat) | .inr j=>.inr j)=match cx (done.length+1) (q :: r) with | .inl ls=>(.inl ((done ++ [l]) ++ ls):List Ln ⊕ Nat) | .inr j=>.inr j
 cases cx (done.length+1) (q :: r) with
 | inl ls=>simp
 | inr j=>rfl
theorem nU(a b:ByteArray):Lib.strCells (a ++ b)=Lib.strCells a ++ Lib.strCells b:=by unfold Lib.strCells;simp
theorem tN{B B' m' n n':Nat}{t:TypeId}{v':Value}{xs':List Value}(h:w.ownsRow B t m v n xs)(h':w.ownsRow B' t' m' v' n' xs')(ht:t≠t'):v.ownBlock=none∨v.ownBlock≠v'.ownBlock:=by
 rcases h.2 with ⟨rfl,_⟩ | ⟨g,cap,cur,rfl,_,hg,_⟩
 ·exact .inl rfl
 ·refine .inr (fun e=>?_);rcases h'.2 with ⟨rfl,_⟩ | ⟨g',cap',cur',rfl,_,hg',_⟩
  ·cases e
  ·obtain rfl:g=g':=Option.some.inj e;rw[hg]at hg';injection hg' with e1;injection e1 with _ e2;exact ht e2
theorem pY{B n b:Nat}{t:TypeId}{cs:List Value}(h:w.ownsRow B t m v n xs)(h':Blk w b cs t')(ht:t≠t'):v.ownBlock=none∨v.ownBlock≠some b:=by
 rcases h.2 with ⟨rfl,_⟩ | ⟨g,cap,cur,rfl,_,hg,_⟩
 ·exact .inl rfl
 ·refine .inr (fun e=>?_);obtain rfl:g=b:=Option.some.inj e;have h2:w.heap[g]? = some (.cells cs.toArray t'):=h';rw[hg]at h2;injection h2 with e1;injection e1 with _ e2;exact ht e2
theorem EZ{B n:Nat}{t:TypeId}(h:w.ownsRow B t m v n xs):∀g,v.ownBlock=some g→B≤g:=by
 intro g e;rcases h.2 with ⟨rfl,_⟩ | ⟨g',cap,cur,rfl,hb,hg,_⟩
 ·cases e
 ·obtain rfl:g'=g:=Option.some.inj e;exact hb
end
section
open Go.Value renaming int → J
open Go.IntKind renaming i64 → Z
open Go.RowKit Go.Sort
theorem CJ(W:World)(a:Option Addr)(n c:Nat)(i1 i2 i3 i4 i5 i6 i7 i8 i9:Int):(Instr.field 47 (.agg #[.slice a n c,J Z i1,J Z i2,J Z i3,J Z i4,J Z i5,J Z i6,J Z i7,J Z i8,J Z i9]) 0).run Tryz.prog W=.ok (.agg #[.slice a n c,J Z i1,J Z i2,J Z i3,J Z i4,J Z i5,J Z i6,J Z i7,J Z i8]) W:=by kernel_rfl
theorem sE(w:World)(db B:Nat)(t:Tk)(u:U4)(a:Option Addr)(cap:Nat)(tx:ByteArray)(n:Int)(hk:bV t)(hs:tx.size≤9223372036854775807)(hB:B≤w.heap.size)(hD:bj w db B t u a cap):
  Calls Tryz.prog 21 #[.pointer (some ⟨db,0,none⟩),.agg #[.string ⟨#[109,111,118,101]⟩,.string tx,J Z n]] w fun e w'=>e=.returned (.string ((bB t u tx true).2))∧(∃a' cap',bj w' db B (bB t u tx true).1.1 (bB t u tx true).1.2 a' cap')∧w.grownBy w' (some db):=by
 have hn:t.L.length≤1048576:=Nat.le_trans hk.1 (by decide);have HZ:=yz (an w (.cells #[.string ⟨#[109,111,118,101]⟩,.string tx,J Z n] 53));have HD0:=yz (hD.kept (yy HZ));have HB0:B≤(w.alloc (.cells #[.string ⟨#[109,111,118,101]⟩,.string tx,J Z n] 53)).heap.size:=Nat.le_trans hB (yy HZ).size;have c0:=(aq w [.string ⟨#[109,111,118,101]⟩,.string tx,J Z n] 53).cell 0 _ rfl;have c1:=(aq w [.string ⟨#[109,111,118,101]⟩,.string tx,J Z n] 53).cell 1 _ rfl;have c2:=(aq w [.string ⟨#[109,111,118,101]⟩,.string tx,J Z n] 53).cell 2 _ rfl;have cT:=yz (kX _ db B t u a cap tx true hn hs HB0 (yy HD0));generalize bB t u tx true=R at *;go_enter Tryz.func21,Tryz.ntmps21;go_wp2_with fail;refine(yy cT).mono ?_;rintro e W1 ⟨rfl,hD1,hg⟩;have HX:=yz hD1;have HG:=yz (bZ (aV (yy HZ)) hg);clear hD1 hg c0 c1 c2;go_wp2_with fail;go_ret;exact⟨rfl,yy HX,yy HG⟩
theorem rF(w:World)(db B:Nat)(t:Tk)(u:U4)(a:Option Addr)(cap:Nat)(tx:ByteArray)(n:Int)(hk:bV t)(hs:tx.size≤9223372036854775807)(hB:B≤w.heap.size)(hD:bj w db B t u a cap):
  Calls Tryz.prog 21 #[.pointer (some ⟨db,0,none⟩),.agg #[.string ⟨#[100,114,105,102,116]⟩,.string tx,J Z n]] w fun e w'=>e=.returned (.string ((bB t u tx false).2))∧(∃a' cap',bj w' db B (bB t u tx false).1.1 (bB t u tx false).1.2 a' cap')∧w.grownBy w' (some db):=by
 have hn:t.L.length≤1048576:=Nat.le_trans hk.1 (by decide);have HZ:=yz (an w (.cells #[.string ⟨#[100,114,105,102,116]⟩,.string tx,J Z n] 53));have HD0:=yz (hD.kept (yy HZ));have HB0:B≤(w.alloc (.cells #[.string ⟨#[100,114,105,102,116]⟩,.string tx,J Z n] 53)).heap.size:=Nat.le_trans hB (yy HZ).size;have c0:=(aq w [.string ⟨#[100,114,105,102,116]⟩,.string tx,J Z n] 53).cell 0 _ rfl;have c1:=(aq w [.string ⟨#[100,114,105,102,116]⟩,.string tx,J Z n] 53).cell 1 _ rfl;have c2:=(aq w [.string ⟨#[100,114,105,102,116]⟩,.string tx,J Z n] 53).cell 2 _ rfl;have cT:=yz (kX _ db B t u a cap tx false hn hs HB0 (yy HD0));generalize bB t u tx false=R at *;go_enter Tryz.func21,Tryz.ntmps21;go_wp2_with fail;refine(yy cT).mono ?_;rintro e W1 ⟨rfl,hD1,hg⟩;have HX:=yz hD1;have HG:=yz (bZ (aV (yy HZ)) hg);clear hD1 hg c0 c1 c2;go_wp2_with fail;go_ret;exact⟨rfl,yy HX,yy HG⟩
theorem vC(w:World)(db B:Nat)(t:Tk)(u:U4)(a:Option Addr)(cap:Nat)(tx:ByteArray)(n:Int)(hk:bV t)(hs:tx.size≤9223372036854775807)(hB:B≤w.heap.size)(hD:bj w db B t u a cap):
  Calls Tryz.prog 21 #[.pointer (some ⟨db,0,none⟩),.agg #[.string ⟨#[115,101,101]⟩,.string tx,J Z n]] w fun e w'=>e=.returned (.string ((dD t (bf t.L u.1 u.2.1 u.2.2.1 u.2.2.2 n)).2))∧(∃a' cap',bj w' db B (dD t (bf t.L u.1 u.2.1 u.2.2.1 u.2.2.2 n)).1 u a' cap')∧w.grownBy w' (some db):=by
 have hn:t.L.length≤1048576:=Nat.le_trans hk.1 (by decide);have HZ:=yz (an w (.cells #[.string ⟨#[115,101,101]⟩,.string tx,J Z n] 53));have HD0:=yz (hD.kept (yy HZ));have HB0:B≤(w.alloc (.cells #[.string ⟨#[115,101,101]⟩,.string tx,J Z n] 53)).heap.size:=Nat.le_trans hB (yy HZ).size;have c0:=(aq w [.string ⟨#[115,101,101]⟩,.string tx,J Z n] 53).cell 0 _ rfl;have c1:=(aq w [.string ⟨#[115,101,101]⟩,.string tx,J Z n] 53).cell 1 _ rfl;have c2:=(aq w [.string ⟨#[115,101,101]⟩,.string tx,J Z n] 53).cell 2 _ rfl;have cS:=yz (ma _ db B t u a cap n hn (yy HD0));have hs6:=iI t.L u.1 u.2.1 u.2.2.1 u.2.2.2 n;have hmx:maxLen≤9223372036854775807:=by decide +kernel
 have cL:=yz (fun W S br dr=>jG W db B t u a cap S br dr hn);generalize (bf t.L u.1 u.2.1 u.2.2.1 u.2.2.2 n)=S at *;go_enter Tryz.func21,Tryz.ntmps21;go_wp2_with fail;refine(yy cS).mono ?_;rintro e W1 ⟨⟨v,rfl,hR⟩,hx⟩;obtain⟨a1,c1',rfl⟩:=ek hR;have HB1:=ax HZ hx;have HD1:=ap HD0 hx;have HR:=yz hR;have hBW:B≤W1.heap.size:=Nat.le_trans HB0 hx.size
 have hcap:S.length≤c1'∧c1'≤9223372036854775807:=by
  rcases(di hR).2 with h | h
  ·exact⟨h.1,Nat.le_trans h.2 hmx⟩
  ·omega
 clear hR hx c0 c1 c2;go_wp2_with fail;refine((yy cL) W1 S a1 c1' (by omega) hBW (yy HD1) (di (yy HR)).1 (fun y e=>(ck (yy HR) y e).2) hcap.1 hcap.2).mono ?_;rintro e W2 ⟨rfl,hD2,hg⟩;have HX:=yz hD2;have HG:=yz (bZ (aV (yy HB1)) hg);clear hD2 hg;go_wp2_with fail;go_ret;exact⟨rfl,yy HX,yy HG⟩
theorem rE(w:World)(db B:Nat)(t:Tk)(u:U4)(a:Option Addr)(cap:Nat)(tx:ByteArray)(n:Int)(hk:bV t)(hs:tx.size≤9223372036854775807)(hB:B≤w.heap.size)(hD:bj w db B t u a cap):
  Calls Tryz.prog 21 #[.pointer (some ⟨db,0,none⟩),.agg #[.string ⟨#[98,108,105,110,100]⟩,.string tx,J Z n]] w fun e w'=>e=.returned (.string ((dD t []).2))∧(∃a' cap',bj w' db B (dD t []).1 u a' cap')∧w.grownBy w' (some db):=by
 have hn:t.L.length≤1048576:=Nat.le_trans hk.1 (by decide);have HZ:=yz (an w (.cells #[.string ⟨#[98,108,105,110,100]⟩,.string tx,J Z n] 53));have HD0:=yz (hD.kept (yy HZ));have HB0:B≤(w.alloc (.cells #[.string ⟨#[98,108,105,110,100]⟩,.string tx,J Z n] 53)).heap.size:=Nat.le_trans hB (yy HZ).size;have c0:=(aq w [.string ⟨#[98,108,105,110,100]⟩,.string tx,J Z n] 53).cell 0 _ rfl;have c1:=(aq w [.string ⟨#[98,108,105,110,100]⟩,.string tx,J Z n] 53).cell 1 _ rfl;have c2:=(aq w [.string ⟨#[98,108,105,110,100]⟩,.string tx,J Z n] 53).cell 2 _ rfl;have cL:Hid (Calls Tryz.prog 32 #[.pointer (some ⟨db,0,none⟩),.slice none 0 0] (w.alloc (.cells #[.string ⟨#[98,108,105,110,100]⟩,.string tx,J Z n] 53)) fun e w'=>e=.returned (.string (dD t []).2)∧(∃a' cap',bj w' db B (dD t []).1 u a' cap')∧(w.alloc (.cells #[.string ⟨#[98,108,105,110,100]⟩,.string tx,J Z n] 53)).grownBy w' (some db)):=yz (jG (w.alloc (.cells #[.string ⟨#[98,108,105,110,100]⟩,.string tx,J Z n] 53)) db B t u a cap [] none 0 hn (by decide) HB0 (yy HD0) (.inl rfl) (fun y e=>by cases e) (by decide) (by decide));generalize dD t []=R at *;go_enter Tryz.func21,Tryz.ntmps21;go_wp2_with fail;refine(yy cL).mono ?_;rintro e W1 ⟨rfl,hD1,hg⟩;have HX:=yz hD1;have HG:=yz (bZ (aV (yy HZ)) hg);clear hD1 hg c0 c1 c2;go_wp2_with fail;go_ret;exact⟨rfl,yy HX,yy HG⟩
theorem rG(w:World)(db B:Nat)(t:Tk)(u:U4)(a:Option Addr)(cap:Nat)(tx:ByteArray)(n:Int)(hk:bV t)(hs:tx.size≤9223372036854775807)(hB:B≤w.heap.size)(hD:bj w db B t u a cap):
  Calls Tryz.prog 21 #[.pointer (some ⟨db,0,none⟩),.agg #[.string ⟨#[114,101,115,101,116]⟩,.string tx,J Z n]] w fun e w'=>e=.returned (.string (eR))∧(∃a' cap',bj w' db B (eF t) u a' cap')∧w.grownBy w' (some db):=by
 have hn:t.L.length≤1048576:=Nat.le_trans hk.1 (by decide);have HZ:=yz (an w (.cells #[.string ⟨#[114,101,115,101,116]⟩,.string tx,J Z n] 53));have HD0:=yz (hD.kept (yy HZ));have HB0:B≤(w.alloc (.cells #[.string ⟨#[114,101,115,101,116]⟩,.string tx,J Z n] 53)).heap.size:=Nat.le_trans hB (yy HZ).size;have c0:=(aq w [.string ⟨#[114,101,115,101,116]⟩,.string tx,J Z n] 53).cell 0 _ rfl;have c1:=(aq w [.string ⟨#[114,101,115,101,116]⟩,.string tx,J Z n] 53).cell 1 _ rfl;have c2:=(aq w [.string ⟨#[114,101,115,101,116]⟩,.string tx,J Z n] 53).cell 2 _ rfl;obtain⟨u1,u2,u3,u4⟩:=u;obtain⟨L,lim,mode,A,B',C,D,coast,fr⟩:=t;dsimp only at hn hD;have HDs:=yz (yy HD0).sky.stars;have cR:=yz (sG L lim mode A B' C D coast fr a cap (w.alloc (.cells #[.string ⟨#[114,101,115,101,116]⟩,.string tx,J Z n] 53)) hn (yy HDs));generalize eF ⟨L,lim,mode,A,B',C,D,coast,fr⟩=t2 at *;generalize gK ⟨L,lim,mode,A,B',C,D,coast,fr⟩=code at *;obtain⟨L2,l2,m2,A2,B2,C2,D2,o2,f2⟩:=t2;have d0:=(yy HD0).blk.cell 0 _ rfl;have d1:=(yy HD0).blk.cell 1 _ rfl;have d2:=(yy HD0).blk.cell 2 _ rfl;have d3:=(yy HD0).blk.cell 3 _ rfl;have d4:=(yy HD0).blk.cell 4 _ rfl;have d5:=(yy HD0).blk.cell 5 _ rfl;have d6:=(yy HD0).blk.cell 6 _ rfl;have d7:=(yy HD0).blk.cell 7 _ rfl;have d8:=(yy HD0).blk.cell 8 _ rfl;go_enter Tryz.func21,Tryz.ntmps21;go_wp2_with fail;refine(yy cR).mono ?_;rintro e W1 ⟨⟨a2,cap2,rfl,hC2⟩,hx⟩;have HC2:=yz hC2;have HB1:=ax HZ hx;have HE:=ap HD0 hx;have hdl:db<W1.heap.size:=(yy HE).lt;have hd0:=(yy HD0).lt;clear hC2 hx c0 c1 c2 d0 d1 d2 d3 d4 d5 d6 d7 d8;have hft:=CJ W1 a2 L2.length cap2 l2 m2 A2 B2 C2 D2 o2 f2 code;have e0:=(yy HE).blk.cell 0 _ rfl;have z0:=(yy HE).blk.free 0;have e1:=(yy HE).blk.cell 1 _ rfl;have z1:=(yy HE).blk.free 1;have e2:=(yy HE).blk.cell 2 _ rfl;have z2:=(yy HE).blk.free 2;have e3:=(yy HE).blk.cell 3 _ rfl;have z3:=(yy HE).blk.free 3;have e4:=(yy HE).blk.cell 4 _ rfl;have z4:=(yy HE).blk.free 4;have e5:=(yy HE).blk.cell 5 _ rfl;have z5:=(yy HE).blk.free 5;have e6:=(yy HE).blk.cell 6 _ rfl;have z6:=(yy HE).blk.free 6;have e7:=(yy HE).blk.cell 7 _ rfl;have z7:=(yy HE).blk.free 7;have e8:=(yy HE).blk.cell 8 _ rfl;have z8:=(yy HE).blk.free 8;go_wp2_with fail;obtain⟨HP,hg⟩:=bj.put9 (yy HE) ⟨L2,l2,m2,A2,B2,C2,D2,o2,f2⟩ a2 cap2 (dm (yy HC2) HB0) (fun x e=>by have:=(ck (yy HC2) x e).1;omega);dsimp only at HP hg;have HP8:=yz HP;have HG8:=yz (bZ (aV (yy HB1)) hg);clear HP hg;go_ret;exact⟨rfl,⟨_,_,yy HP8⟩,yy HG8⟩
end
end Go.Proofs.YtdchjcadhlkpfaaGreatDoor
