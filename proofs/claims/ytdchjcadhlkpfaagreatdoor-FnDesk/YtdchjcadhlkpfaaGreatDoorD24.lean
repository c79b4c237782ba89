/- Several texts in one: ModQ, DkW. -/
import Derived.Test.YtdchjcadhlkpfaaGreatDoorD23
namespace Go.Proofs.YtdchjcadhlkpfaaGreatDoor
set_option linter.unusedVariables false
set_option linter.unusedSimpArgs false
set_option maxRecDepth 100000
set_option maxHeartbeats 8000000
section
open Go.Value renaming int → J
open Go.IntKind renaming i64 → Z
open Go.RowKit Go.Sort
def mV(g1 g2 g3 g4 a b c d:Int):Int:=coP g1 g2 g3 g4 a b c d (coA g1 g2 g3 g4 a b c d)
def mW(g1 g2 g3 g4 a b c d:Int):Int:=coP g1 g2 g3 g4 a b c d (coB g1 g2 g3 g4 a b c d)
def mX(g1 g2 g3 g4 a b c d:Int):Int:=coP g1 g2 g3 g4 a b c d (coC g1 g2 g3 g4 a b c d)
def mY(g1 g2 g3 g4 a b c d:Int):Int:=coP g1 g2 g3 g4 a b c d (coD g1 g2 g3 g4 a b c d)
def ch(t:Tk)(g1 g2 g3 g4:Int):Tk:=if t.mode=0 then t else if coK g1 g2 g3 g4 t.A t.B t.C t.D=0 then { t with A:=mV g1 g2 g3 g4 t.A t.B t.C t.D,B:=mW g1 g2 g3 g4 t.A t.B t.C t.D,C:=mX g1 g2 g3 g4 t.A t.B t.C t.D,D:=mY g1 g2 g3 g4 t.A t.B t.C t.D } else qY t
def tkV(a:Option Addr)(n c:Nat)(t:Tk):Value:=.agg #[.slice a n c,J Z t.lim,J Z t.mode,J Z t.A,J Z t.B,J Z t.C,J Z t.D,J Z t.coast,J Z t.fr]
theorem oo(g1 g2 g3 g4 a b c d:Int)(w:World):
  Calls Tryz.prog 112 #[.agg #[J Z g1,J Z g2,J Z g3,J Z g4],.agg #[J Z a,J Z b,J Z c,J Z d]] w fun e w'=>e=.returned (.agg #[J Z (mV g1 g2 g3 g4 a b c d),J Z (mW g1 g2 g3 g4 a b c d),J Z (mX g1 g2 g3 g4 a b c d),J Z (mY g1 g2 g3 g4 a b c d),J Z (coK g1 g2 g3 g4 a b c d)])∧Below w.heap.size w w':=wo g1 g2 g3 g4 a b c d w
theorem uK(g1 g2 g3 g4 a b c d:Int)(w:World)(hg:aD g1 g2 g3 g4=true)(ht:aD a b c d=true):
  Calls Tryz.prog 75 #[.agg #[J Z g1,J Z g2,J Z g3,J Z g4],.agg #[J Z a,J Z b,J Z c,J Z d]] w fun e w'=>e=.returned (.agg #[J Z (mV g1 g2 g3 g4 a b c d),J Z (mW g1 g2 g3 g4 a b c d),J Z (mX g1 g2 g3 g4 a b c d),J Z (mY g1 g2 g3 g4 a b c d),J Z (coK g1 g2 g3 g4 a b c d)])∧Below w.heap.size w w':=by
 refine(kR g1 g2 g3 g4 a b c d w (bg.1 hg).1 (bg.1 ht).1).mono fun e w' h=>⟨?_,h.2⟩
 rw[h.1,←Cv (by unfold coR;rw[hg,ht];rfl)];rfl
theorem rr(T:Array Value)(X:World)(b:Nat)(v:Value)(lim mode A B C D coast fr:Int)(hT:T.getD 4 undef=.pointer (some ⟨b,0,none⟩))(h:eu X b v lim mode A B C D coast fr):(results Tryz.f153 T).run Tryz.prog X=.ok (.agg #[v,J Z lim,J Z mode,J Z A,J Z B,J Z C,J Z D,J Z coast,J Z fr]) X:=by
 obtain⟨h0,h1,h2,h3,h4,h5,h6,h7,h8⟩:=h;simp only[Array.getD_eq_getD_getElem?]at hT;simp[results,Tryz.results153,go_sem,hT,h0,h1,h2,h3,h4,h5,h6,h7,h8]
theorem vN(L:List St)(lim mode A B C D coast fr g1 g2 g3 g4:Int)(a:Option Addr)(n c:Nat)(w:World):
  Calls Tryz.prog 153 #[.agg #[.slice a n c,J Z lim,J Z mode,J Z A,J Z B,J Z C,J Z D,J Z coast,J Z fr],.agg #[J Z g1,J Z g2,J Z g3,J Z g4]] w fun e w'=>e=.returned (tkV a n c (ch ⟨L,lim,mode,A,B,C,D,coast,fr⟩ g1 g2 g3 g4))∧Below w.heap.size w w':=by
 by_cases hm:mode=0
 ·have HO:Hid (tkV a n c (ch ⟨L,lim,mode,A,B,C,D,coast,fr⟩ g1 g2 g3 g4)=.agg #[.slice a n c,J Z lim,J Z mode,J Z A,J Z B,J Z C,J Z D,J Z coast,J Z fr]):=yz (by unfold ch tkV;rw[if_pos hm]);go_enter Tryz.func153,Tryz.ntmps153;go_wp2;rw[yy HO];subst hm;exact bodyPost_ret (v:=.agg #[.slice a n c,J Z lim,J Z 0,J Z A,J Z B,J Z C,J Z D,J Z coast,J Z fr]) (by simp[results,Tryz.results153,go_sem]) rfl ⟨rfl,eC _ _ _ _⟩
 have B0:=eC w (.cells #[.slice a n c,J Z lim,J Z mode,J Z A,J Z B,J Z C,J Z D,J Z coast,J Z fr] 130) (.cells #[J Z g1,J Z g2,J Z g3,J Z g4] 43) (.cells #[.slice none 0 0,J Z 0,J Z 0,J Z 0,J Z 0,J Z 0,J Z 0,J Z 0,J Z 0] 130);have Z2:=aX (w.alloc (.cells #[.slice a n c,J Z lim,J Z mode,J Z A,J Z B,J Z C,J Z D,J Z coast,J Z fr] 130)) (.cells #[J Z g1,J Z g2,J Z g3,J Z g4] 43) (.cells #[.slice none 0 0,J Z 0,J Z 0,J Z 0,J Z 0,J Z 0,J Z 0,J Z 0,J Z 0] 130);have T0:=(dY w (.slice a n c) lim mode A B C D coast fr 130).kept Z2;have F0:=(dS w #[.slice a n c,J Z lim,J Z mode,J Z A,J Z B,J Z C,J Z D,J Z coast,J Z fr] 130).kept (by simp) Z2;have R0:=(by simpa using dY ((w.alloc (.cells #[.slice a n c,J Z lim,J Z mode,J Z A,J Z B,J Z C,J Z D,J Z coast,J Z fr] 130)).alloc (.cells #[J Z g1,J Z g2,J Z g3,J Z g4] 43)) (.slice none 0 0) 0 0 0 0 0 0 0 0 130:eu (((w.alloc (.cells #[.slice a n c,J Z lim,J Z mode,J Z A,J Z B,J Z C,J Z D,J Z coast,J Z fr] 130)).alloc (.cells #[J Z g1,J Z g2,J Z g3,J Z g4] 43)).alloc (.cells #[.slice none 0 0,J Z 0,J Z 0,J Z 0,J Z 0,J Z 0,J Z 0,J Z 0,J Z 0] 130)) (w.heap.size+1+1) (.slice none 0 0) 0 0 0 0 0 0 0 0)
 have G0:=(by simpa using dS ((w.alloc (.cells #[.slice a n c,J Z lim,J Z mode,J Z A,J Z B,J Z C,J Z D,J Z coast,J Z fr] 130)).alloc (.cells #[J Z g1,J Z g2,J Z g3,J Z g4] 43)) #[.slice none 0 0,J Z 0,J Z 0,J Z 0,J Z 0,J Z 0,J Z 0,J Z 0,J Z 0] 130:gk (((w.alloc (.cells #[.slice a n c,J Z lim,J Z mode,J Z A,J Z B,J Z C,J Z D,J Z coast,J Z fr] 130)).alloc (.cells #[J Z g1,J Z g2,J Z g3,J Z g4] 43)).alloc (.cells #[.slice none 0 0,J Z 0,J Z 0,J Z 0,J Z 0,J Z 0,J Z 0,J Z 0,J Z 0] 130)) (w.heap.size+1+1))
 have HB:=yz B0;have HT:=yz T0;have HF:=yz F0;have HR:=yz R0;have HG:=yz G0;have hO1:coK g1 g2 g3 g4 A B C D=0→Hid (tkV a n c (ch ⟨L,lim,mode,A,B,C,D,coast,fr⟩ g1 g2 g3 g4)=.agg #[.slice a n c,J Z lim,J Z mode,J Z (mV g1 g2 g3 g4 A B C D),J Z (mW g1 g2 g3 g4 A B C D),J Z (mX g1 g2 g3 g4 A B C D),J Z (mY g1 g2 g3 g4 A B C D),J Z coast,J Z fr]):=fun h=>yz (by unfold ch tkV;rw[if_neg hm,if_pos h]);have hO2:coK g1 g2 g3 g4 A B C D≠0→Hid (tkV a n c (ch ⟨L,lim,mode,A,B,C,D,coast,fr⟩ g1 g2 g3 g4)=.agg #[.slice a n c,J Z lim,J Z 0,J Z 0,J Z 0,J Z 0,J Z 0,J Z 0,J Z fr]):=fun h=>yz (by unfold ch tkV;rw[if_neg hm,if_neg h];rfl);have cX:=yz (fun W=>oo g1 g2 g3 g4 A B C D W);generalize mV g1 g2 g3 g4 A B C D=P1 at *;generalize mW g1 g2 g3 g4 A B C D=P2 at *;generalize mX g1 g2 g3 g4 A B C D=P3 at *;generalize mY g1 g2 g3 g4 A B C D=P4 at *;generalize coK g1 g2 g3 g4 A B C D=Pk at *;clear B0 Z2 T0 F0 R0 G0;go_enter Tryz.func153,Tryz.ntmps153;go_wp2_with fail;refine(yy cX _).mono ?_;rintro e w1 ⟨rfl,hx⟩;have Z1:=an w1 (.cells #[J Z P1,J Z P2,J Z P3,J Z P4,J Z Pk] 108);have B1:=ax (ax HB hx) Z1;have T1:=aQ HT hx Z1;have F1:=yz (((yy HF).kept (yy HT).lt hx).kept ((yy HT).kept hx).lt Z1);have R1:=aQ HR hx Z1;have G1:=yz (((yy HG).kept (yy HR).lt hx).kept ((yy HR).kept hx).lt Z1);have O1:=dl w1 P1 P2 P3 P4 Pk 108;clear hx Z1 HB HT HF HR HG cX;obtain⟨o0,o1,o2,o3,o4⟩:=O1;by_cases hk:Pk=0
 ·have HO:=hO1 hk;clear hO1 hO2;subst hk;obtain⟨s0,s1,s2,s3,s4,s5,s6,s7,s8⟩:=yy T1;obtain⟨r0,r1,r2,r3,r4,r5,r6,r7,r8⟩:=yy R1;have f3:=yy F1 3;have f4:=yy F1 4;have f5:=yy F1 5;have f6:=yy F1 6;have g0:=yy G1 0;have q1:=yy G1 1;have q2:=yy G1 2;have q3:=yy G1 3;have q4:=yy G1 4;have q5:=yy G1 5;have q6:=yy G1 6;have q7:=yy G1 7;have q8:=yy G1 8;go_wp2_with fail;clear s0 s1 s2 s3 s4 s5 s6 s7 s8 r0 r1 r2 r3 r4 r5 r6 r7 r8 f3 f4 f5 f6 g0 q1 q2 q3 q4 q5 q6 q7 q8 o0 o1 o2 o3 o4;rw[yy HO];refine bodyPost_ret (v:=.agg #[.slice a n c,J Z lim,J Z mode,J Z P1,J Z P2,J Z P3,J Z P4,J Z coast,J Z fr]) ?_ rfl ⟨rfl,?_⟩
  ·refine rr _ _ (w.heap.size+1+1) _ lim mode P1 P2 P3 P4 coast fr rfl ?_;refine eo (lim0:=0) (mode0:=0) (A0:=0) (B0:=0) (C0:=0) (D0:=0) (coast0:=0) (fr0:=0) (u:=.slice none 0 0) ?_ _ lim mode P1 P2 P3 P4 coast fr;iterate 4 (refine eu.far ?_ (show w.heap.size+1+1≠w.heap.size by omega) _ _)
   exact yy R1
  ·iterate 9 (refine aG ?_ (show w.heap.size≤w.heap.size+1+1 by omega) _ _)
   iterate 4 (refine aG ?_ (Nat.le_refl w.heap.size) _ _)
   exact yy B1
 ·have HO:=hO2 hk;clear hO1 hO2;obtain⟨s0,s1,s2,s3,s4,s5,s6,s7,s8⟩:=yy T1;go_wp2_with fail;clear s0 s1 s2 s3 s4 s5 s6 s7 s8 o0 o1 o2 o3 o4;refine(lM lim mode A B C D coast fr a n c _).mono ?_;rintro e w2 ⟨rfl,hx⟩;have B2:=ax B1 hx;have R2:=ap R1 hx;have G2:=yz ((yy G1).kept (yy R1).lt hx);clear hx B1 R1 G1 T1 F1;obtain⟨r0,r1,r2,r3,r4,r5,r6,r7,r8⟩:=yy R2;have q0:=yy G2 0;have q1:=yy G2 1;have q2:=yy G2 2;have q3:=yy G2 3;have q4:=yy G2 4;have q5:=yy G2 5;have q6:=yy G2 6;have q7:=yy G2 7;have q8:=yy G2 8;go_wp2_with fail;clear r0 r1 r2 r3 r4 r5 r6 r7 r8 q0 q1 q2 q3 q4 q5 q6 q7 q8;rw[yy HO];refine bodyPost_ret (v:=.agg #[.slice a n c,J Z lim,J Z 0,J Z 0,J Z 0,J Z 0,J Z 0,J Z 0,J Z fr]) ?_ rfl ⟨rfl,?_⟩
  ·refine rr _ _ (w.heap.size+1+1) _ lim 0 0 0 0 0 0 fr rfl ?_;exact eo (lim0:=0) (mode0:=0) (A0:=0) (B0:=0) (C0:=0) (D0:=0) (coast0:=0) (fr0:=0) (u:=.slice none 0 0) (yy R2) _ lim 0 0 0 0 0 0 fr
  ·iterate 9 (refine aG ?_ (show w.heap.size≤w.heap.size+1+1 by omega) _ _)
   exact yy B2
end
section
open Go.RowKit Go.Deep Go.ChangeShapes
theorem fu{P:Program}{x:String×DataW Unit}{l:List (String×DataW Unit)}{w:World}(h:laidMet P (x :: l) w):laidMet P l w:=by
 obtain⟨ps,⟨g,t,cs,f,p,q,hg,ht,hv,hd,hr,e⟩,hn,hrows⟩:=h;subst e;exact⟨q,hr,(List.nodup_append.1 hn).2.1,fun b off hb=>hrows b off (List.mem_append_right _ hb)⟩
end
end Go.Proofs.YtdchjcadhlkpfaaGreatDoor
