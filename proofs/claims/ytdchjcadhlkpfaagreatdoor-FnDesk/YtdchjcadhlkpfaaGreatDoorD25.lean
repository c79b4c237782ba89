/- Several texts in one: ModR. -/
import Derived.Test.YtdchjcadhlkpfaaGreatDoorD24
namespace Go.Proofs.YtdchjcadhlkpfaaGreatDoor
set_option linter.unusedVariables false
set_option linter.unusedSimpArgs false
set_option maxRecDepth 100000
set_option maxHeartbeats 8000000
section
open Go.Value renaming int → J
open Go.IntKind renaming i64 → Z
open Go.RowKit Go.Sort
def gn(t:Tk)(g1 g2 g3 g4:Int):Bool:=aH t&&aD g1 g2 g3 g4
def go(t:Tk)(g1 g2 g3 g4:Int):Tk:=if gn t g1 g2 g3 g4=true then ch t g1 g2 g3 g4 else fO
def iZ(t:Tk)(g1 g2 g3 g4:Int):Int:=if gn t g1 g2 g3 g4=true then 0 else 1
theorem Ej(t:Tk)(g1 g2 g3 g4:Int):(ch t g1 g2 g3 g4).L=t.L:=by
 unfold ch;split
 ·rfl
 ·split<;>rfl
theorem aC.off{w:World}{B:Nat}{L:List St}{a:Option Addr}{cap:Nat}(h:aC w B L a cap){b:Nat}(hne:∀x,a=some x→x.block≠b)(o:Nat)(y:Value):aC (w.setCell ⟨b,o,none⟩ y) B L a cap:=by
 obtain⟨h1,h2⟩:=h;refine⟨h1,?_⟩;rcases h2 with h2 | ⟨g,c',cur,e,hg,hh,r⟩
 ·exact .inl h2
 ·injection e with e1 e2 e3;exact .inr ⟨g,c',cur,by rw[e1,e2,e3],hg,by rw[Below.heap_setCell w ⟨b,o,none⟩ y g (fun e=>hne _ e1 e)];exact hh,r⟩
theorem jE(T:Array Value)(X:World)(b:Nat)(v:Value)(lim mode A B C D coast fr code:Int)(hT:T.getD 4 undef=.pointer (some ⟨b,0,none⟩))(h:TkO X b v lim mode A B C D coast fr code):(results Tryz.f52 T).run Tryz.prog X=.ok (.agg #[v,J Z lim,J Z mode,J Z A,J Z B,J Z C,J Z D,J Z coast,J Z fr,J Z code]) X:=by
 obtain⟨⟨h0,h1,h2,h3,h4,h5,h6,h7,h8⟩,h9⟩:=h;simp only[Array.getD_eq_getD_getElem?]at hT;simp[results,Tryz.results52,go_sem,hT,h0,h1,h2,h3,h4,h5,h6,h7,h8,h9]
theorem oO(T:Array Value)(X:World)(b:Nat)(v:Value)(lim mode A B C D coast fr code:Int)(hT:T.getD 4 undef=.pointer (some ⟨b,0,none⟩))(h:TkO X b v lim mode A B C D coast fr code):(results Tryz.f120 T).run Tryz.prog X=.ok (.agg #[v,J Z lim,J Z mode,J Z A,J Z B,J Z C,J Z D,J Z coast,J Z fr,J Z code]) X:=by
 obtain⟨⟨h0,h1,h2,h3,h4,h5,h6,h7,h8⟩,h9⟩:=h;simp only[Array.getD_eq_getD_getElem?]at hT;simp[results,Tryz.results120,go_sem,hT,h0,h1,h2,h3,h4,h5,h6,h7,h8,h9]
theorem vz(L:List St)(lim mode A B C D coast fr g1 g2 g3 g4:Int)(ad:Option Addr)(c:Nat)(w:World)(hn:L.length≤1048576)(hS:aZ w ad L L.length):
  Calls Tryz.prog 52 #[.agg #[.slice ad L.length c,J Z lim,J Z mode,J Z A,J Z B,J Z C,J Z D,J Z coast,J Z fr],.agg #[J Z g1,J Z g2,J Z g3,J Z g4]] w fun e w'=>pA w' w.heap.size (go ⟨L,lim,mode,A,B,C,D,coast,fr⟩ g1 g2 g3 g4) (iZ ⟨L,lim,mode,A,B,C,D,coast,fr⟩ g1 g2 g3 g4) e∧Below w.heap.size w w':=by
 have B0:=eC w (.cells #[.slice ad L.length c,J Z lim,J Z mode,J Z A,J Z B,J Z C,J Z D,J Z coast,J Z fr] 45) (.cells #[J Z g1,J Z g2,J Z g3,J Z g4] 43) (.cells #[.slice none 0 0,J Z 0,J Z 0,J Z 0,J Z 0,J Z 0,J Z 0,J Z 0,J Z 0,J Z 0] 47);have Z2:=aX (w.alloc (.cells #[.slice ad L.length c,J Z lim,J Z mode,J Z A,J Z B,J Z C,J Z D,J Z coast,J Z fr] 45)) (.cells #[J Z g1,J Z g2,J Z g3,J Z g4] 43) (.cells #[.slice none 0 0,J Z 0,J Z 0,J Z 0,J Z 0,J Z 0,J Z 0,J Z 0,J Z 0,J Z 0] 47);have T0:=(dY w (.slice ad L.length c) lim mode A B C D coast fr 45).kept Z2;have U0:=(by simpa using aP (w.alloc (.cells #[.slice ad L.length c,J Z lim,J Z mode,J Z A,J Z B,J Z C,J Z D,J Z coast,J Z fr] 45)) g1 g2 g3 g4 43:aJ ((w.alloc (.cells #[.slice ad L.length c,J Z lim,J Z mode,J Z A,J Z B,J Z C,J Z D,J Z coast,J Z fr] 45)).alloc (.cells #[J Z g1,J Z g2,J Z g3,J Z g4] 43)) (w.heap.size+1) g1 g2 g3 g4).alloc (.cells #[.slice none 0 0,J Z 0,J Z 0,J Z 0,J Z 0,J Z 0,J Z 0,J Z 0,J Z 0,J Z 0] 47);have R0:=(by simpa using lG ((w.alloc (.cells #[.slice ad L.length c,J Z lim,J Z mode,J Z A,J Z B,J Z C,J Z D,J Z coast,J Z fr] 45)).alloc (.cells #[J Z g1,J Z g2,J Z g3,J Z g4] 43)) (.slice none 0 0) 0 0 0 0 0 0 0 0 0 47:TkO (((w.alloc (.cells #[.slice ad L.length c,J Z lim,J Z mode,J Z A,J Z B,J Z C,J Z D,J Z coast,J Z fr] 45)).alloc (.cells #[J Z g1,J Z g2,J Z g3,J Z g4] 43)).alloc (.cells #[.slice none 0 0,J Z 0,J Z 0,J Z 0,J Z 0,J Z 0,J Z 0,J Z 0,J Z 0,J Z 0] 47)) (w.heap.size+1+1) (.slice none 0 0) 0 0 0 0 0 0 0 0 0)
 have G0:=(by simpa using dS ((w.alloc (.cells #[.slice ad L.length c,J Z lim,J Z mode,J Z A,J Z B,J Z C,J Z D,J Z coast,J Z fr] 45)).alloc (.cells #[J Z g1,J Z g2,J Z g3,J Z g4] 43)) #[.slice none 0 0,J Z 0,J Z 0,J Z 0,J Z 0,J Z 0,J Z 0,J Z 0,J Z 0,J Z 0] 47:gk (((w.alloc (.cells #[.slice ad L.length c,J Z lim,J Z mode,J Z A,J Z B,J Z C,J Z D,J Z coast,J Z fr] 45)).alloc (.cells #[J Z g1,J Z g2,J Z g3,J Z g4] 43)).alloc (.cells #[.slice none 0 0,J Z 0,J Z 0,J Z 0,J Z 0,J Z 0,J Z 0,J Z 0,J Z 0,J Z 0] 47)) (w.heap.size+1+1))
 have hsz:w.heap.size+3≤(((w.alloc (.cells #[.slice ad L.length c,J Z lim,J Z mode,J Z A,J Z B,J Z C,J Z D,J Z coast,J Z fr] 45)).alloc (.cells #[J Z g1,J Z g2,J Z g3,J Z g4] 43)).alloc (.cells #[.slice none 0 0,J Z 0,J Z 0,J Z 0,J Z 0,J Z 0,J Z 0,J Z 0,J Z 0,J Z 0] 47)).heap.size:=by simp
 have S0:=hS.kept B0;have cR:=yz (fun W h=>jn L lim mode A B C D coast fr ad c W hn h);have cC:=yz (fun W h=>kS L lim mode A B C D coast fr ad c W hn h);have HB:=yz B0;have HT:=yz T0;have HU:=yz U0;have HR:=yz R0;have HG:=yz G0;have HS:=yz S0;clear B0 T0 U0 R0 G0 S0 Z2 hS;go_enter Tryz.func52,Tryz.ntmps52;go_wp2_with fail;generalize hW:((w.alloc (.cells #[.slice ad L.length c,J Z lim,J Z mode,J Z A,J Z B,J Z C,J Z D,J Z coast,J Z fr] 45)).alloc (.cells #[J Z g1,J Z g2,J Z g3,J Z g4] 43)).alloc (.cells #[.slice none 0 0,J Z 0,J Z 0,J Z 0,J Z 0,J Z 0,J Z 0,J Z 0,J Z 0,J Z 0] 47)=W at *;clear hW;refine(yy cR _ (yy HS)).mono ?_;rintro e w1 ⟨rfl,hx⟩;have B1:=ax HB hx;have T1:=ap HT hx;have U1:=yz ((yy HU).kept (yy HU).lt hx);have R1:=ap HR hx;have G1:=yz ((yy HG).kept (yy HR).lt hx);have S1:=ap HS hx;have hsz1:w.heap.size+3≤w1.heap.size:=Nat.le_trans hsz hx.size;clear hx HB HT HU HR HG HS hsz cR;have hill:gn ⟨L,lim,mode,A,B,C,D,coast,fr⟩ g1 g2 g3 g4=false→Hid (go ⟨L,lim,mode,A,B,C,D,coast,fr⟩ g1 g2 g3 g4=fO)∧Hid (iZ ⟨L,lim,mode,A,B,C,D,coast,fr⟩ g1 g2 g3 g4=1):=fun h=>⟨yz (by unfold go;rw[h];rfl),yz (by unfold iZ;rw[h];rfl)⟩
 cases hk:aH ⟨L,lim,mode,A,B,C,D,coast,fr⟩
 ·obtain⟨HO1,HO2⟩:=hill (by unfold gn;rw[hk];rfl);clear hill;go_wp2_with fail;refine(dZ 1 _).mono ?_;rintro e w2 ⟨rfl,hx⟩;have B2:=ax B1 hx;have R2:=ap R1 hx;have G2:=yz ((yy G1).kept (yy R1).lt hx);clear hx B1 R1 G1;obtain⟨⟨r0,r1,r2,r3,r4,r5,r6,r7,r8⟩,r9⟩:=yy R2;have g0:=yy G2 0;have g1:=yy G2 1;have g2:=yy G2 2;have g3:=yy G2 3;have g4:=yy G2 4;have g5:=yy G2 5;have g6:=yy G2 6;have g7:=yy G2 7;have g8:=yy G2 8;have g9:=yy G2 9;go_wp2_with fail;clear r0 r1 r2 r3 r4 r5 r6 r7 r8 r9 g0 g1 g2 g3 g4 g5 g6 g7 g8 g9;refine bodyPost_ret (v:=.agg #[.slice none 0 0,J Z 0,J Z 0,J Z 0,J Z 0,J Z 0,J Z 0,J Z 0,J Z 0,J Z 1]) ?_ rfl ⟨?_,?_⟩
  ·refine jE _ _ (w.heap.size+1+1) _ 0 0 0 0 0 0 0 0 1 rfl ?_;exact bJ (yy R2) _ _ _ _ _ _ _ _ _ _
  ·rw[yy HO1,yy HO2];exact ce _ _ _
  ·iterate 10 (refine aG ?_ (show w.heap.size≤w.heap.size+1+1 by omega) _ _)
   exact yy B2
 obtain⟨u0,u1,u2,u3⟩:=yy U1;go_wp2_with fail;clear u0 u1 u2 u3;refine(bu g1 g2 g3 g4 _).mono ?_;rintro e w2 ⟨rfl,hx⟩;have B2:=ax B1 hx;have T2:=ap T1 hx;have U2:=yz ((yy U1).kept (yy U1).lt hx);have R2:=ap R1 hx;have G2:=yz ((yy G1).kept (yy R1).lt hx);have S2:=ap S1 hx;have hsz2:w.heap.size+3≤w2.heap.size:=Nat.le_trans hsz1 hx.size;clear hx B1 T1 U1 R1 G1 S1 hsz1;cases hg:aD g1 g2 g3 g4
 ·obtain⟨HO1,HO2⟩:=hill (by unfold gn;rw[hg,Bool.and_false]);clear hill;go_wp2_with fail;refine(dZ 1 _).mono ?_;rintro e w3 ⟨rfl,hx⟩;have B3:=ax B2 hx;have R3:=ap R2 hx;have G3:=yz ((yy G2).kept (yy R2).lt hx);clear hx B2 R2 G2;obtain⟨⟨r0,r1,r2,r3,r4,r5,r6,r7,r8⟩,r9⟩:=yy R3;have g0:=yy G3 0;have g1:=yy G3 1;have g2:=yy G3 2;have g3:=yy G3 3;have g4:=yy G3 4;have g5:=yy G3 5;have g6:=yy G3 6;have g7:=yy G3 7;have g8:=yy G3 8;have g9:=yy G3 9;go_wp2_with fail;clear r0 r1 r2 r3 r4 r5 r6 r7 r8 r9 g0 g1 g2 g3 g4 g5 g6 g7 g8 g9;refine bodyPost_ret (v:=.agg #[.slice none 0 0,J Z 0,J Z 0,J Z 0,J Z 0,J Z 0,J Z 0,J Z 0,J Z 0,J Z 1]) ?_ rfl ⟨?_,?_⟩
  ·refine jE _ _ (w.heap.size+1+1) _ 0 0 0 0 0 0 0 0 1 rfl ?_;exact bJ (yy R3) _ _ _ _ _ _ _ _ _ _
  ·rw[yy HO1,yy HO2];exact ce _ _ _
  ·iterate 10 (refine aG ?_ (show w.heap.size≤w.heap.size+1+1 by omega) _ _)
   exact yy B3
 have hgt:mode≠0→aD A B C D=true:=fun h=>mH hk h;have HO1:Hid (go ⟨L,lim,mode,A,B,C,D,coast,fr⟩ g1 g2 g3 g4=ch ⟨L,lim,mode,A,B,C,D,coast,fr⟩ g1 g2 g3 g4):=yz (by unfold go gn;rw[hk,hg];rfl);have HO2:Hid (iZ ⟨L,lim,mode,A,B,C,D,coast,fr⟩ g1 g2 g3 g4=0):=yz (by unfold iZ gn;rw[hk,hg];rfl);clear hill hk;obtain⟨s0,s1,s2,s3,s4,s5,s6,s7,s8⟩:=yy T2;go_wp2_with fail;clear s0 s1 s2 s3 s4 s5 s6 s7 s8;refine(yy cC _ (yy S2)).mono ?_;rintro e w3 ⟨a,cap,rfl,hC,hx⟩;have Z3:=an w3 (.cells #[.slice a L.length cap,J Z lim,J Z mode,J Z A,J Z B,J Z C,J Z D,J Z coast,J Z fr] 45);have C3:=yz ((hC.low (B':=w.heap.size+1+1+1) (by omega)).kept Z3);have hC9:=hC.low (B':=w.heap.size+1+1+1) (by omega);have B3:=ax (ax B2 hx) Z3;have T3:=aQ T2 hx Z3;have U3:=yz (((yy U2).kept (yy U2).lt hx).kept ((yy U2).kept (yy U2).lt hx).lt Z3);have R3:=aQ R2 hx Z3;have G3:=yz (((yy G2).kept (yy R2).lt hx).kept ((yy R2).kept hx).lt Z3);have Q3:=yz (dY w3 (.slice a L.length cap) lim mode A B C D coast fr 45);have F3:=yz (dS w3 #[.slice a L.length cap,J Z lim,J Z mode,J Z A,J Z B,J Z C,J Z D,J Z coast,J Z fr] 45);have hq:w.heap.size+3≤w3.heap.size:=Nat.le_trans hsz2 hx.size
 have hqr:∀x,a=some x→x.block<w3.heap.size:=fun x e=>by
  rcases hC.2 with ⟨h1,_⟩ | ⟨g,c',cur,e',hb,hh,r⟩
  ·injection h1 with h1;rw[h1]at e;cases e
  ·injection e' with e1;rw[e1]at e;cases e;exact(Array.getElem?_eq_some_iff.1 hh).1
 clear hx hC Z3 B2 T2 U2 R2 G2 S2 hsz2 cC hC9;by_cases hm:mode=0
 ·have HO3:Hid (ch ⟨L,lim,mode,A,B,C,D,coast,fr⟩ g1 g2 g3 g4=⟨L,lim,mode,A,B,C,D,coast,fr⟩):=yz (by unfold ch;rw[if_pos hm]);obtain⟨s0,s1,s2,s3,s4,s5,s6,s7,s8⟩:=yy T3;obtain⟨q0,q1,q2,q3,q4,q5,q6,q7,q8⟩:=yy Q3;obtain⟨⟨r0,r1,r2,r3,r4,r5,r6,r7,r8⟩,r9⟩:=yy R3;have f0:=yy G3 0;have f1:=yy G3 1;have f2:=yy G3 2;have f3:=yy G3 3;have f4:=yy G3 4;have f5:=yy G3 5;have f6:=yy G3 6;have f7:=yy G3 7;have f8:=yy G3 8;have f9:=yy G3 9;subst hm;go_wp2_with fail;clear s0 s1 s2 s3 s4 s5 s6 s7 s8 q0 q1 q2 q3 q4 q5 q6 q7 q8 r0 r1 r2 r3 r4 r5 r6 r7 r8 r9 f0 f1 f2 f3 f4 f5 f6 f7 f8 f9;refine bodyPost_ret (v:=.agg #[.slice a L.length cap,J Z lim,J Z 0,J Z A,J Z B,J Z C,J Z D,J Z coast,J Z fr,J Z 0]) ?_ rfl ⟨?_,?_⟩
  ·refine jE _ _ (w.heap.size+1+1) _ lim 0 A B C D coast fr 0 rfl ?_;exact bJ (yy R3) _ _ _ _ _ _ _ _ _ _
  ·rw[yy HO1,yy HO2,yy HO3];refine⟨a,cap,rfl,?_⟩;refine aC.low (B:=w.heap.size+1+1+1) ?_ (by omega);iterate 10 (refine aC.far ?_ (Nat.lt_succ_self (w.heap.size+1+1)) _ _)
   exact yy C3
  ·iterate 10 (refine aG ?_ (show w.heap.size≤w.heap.size+1+1 by omega) _ _)
   exact yy B3
 have cX:=yz (fun W=>uK g1 g2 g3 g4 A B C D W hg (hgt hm));have hO3:coK g1 g2 g3 g4 A B C D=0→Hid (ch ⟨L,lim,mode,A,B,C,D,coast,fr⟩ g1 g2 g3 g4=⟨L,lim,mode,mV g1 g2 g3 g4 A B C D,mW g1 g2 g3 g4 A B C D,mX g1 g2 g3 g4 A B C D,mY g1 g2 g3 g4 A B C D,coast,fr⟩):=fun h=>yz (by unfold ch;rw[if_neg hm,if_pos h]);have hO4:coK g1 g2 g3 g4 A B C D≠0→Hid (ch ⟨L,lim,mode,A,B,C,D,coast,fr⟩ g1 g2 g3 g4=⟨L,lim,0,0,0,0,0,0,fr⟩):=fun h=>yz (by unfold ch;rw[if_neg hm,if_neg h];rfl);generalize mV g1 g2 g3 g4 A B C D=P1 at *;generalize mW g1 g2 g3 g4 A B C D=P2 at *;generalize mX g1 g2 g3 g4 A B C D=P3 at *;generalize mY g1 g2 g3 g4 A B C D=P4 at *;generalize coK g1 g2 g3 g4 A B C D=Pk at *;obtain⟨s0,s1,s2,s3,s4,s5,s6,s7,s8⟩:=yy T3;obtain⟨u0,u1,u2,u3⟩:=yy U3;go_wp2_with fail;clear s0 s1 s2 s3 s4 s5 s6 s7 s8 u0 u1 u2 u3;generalize hV3:w3.alloc (.cells #[.slice a L.length cap,J Z lim,J Z mode,J Z A,J Z B,J Z C,J Z D,J Z coast,J Z fr] 45)=V3 at *;generalize hqb:w3.heap.size=qb at *;clear hV3 hqb;refine(yy cX _).mono ?_;rintro e w4 ⟨rfl,hx⟩;have Z4:=an w4 (.cells #[J Z P1,J Z P2,J Z P3,J Z P4,J Z Pk] 108);have B4:=ax (ax B3 hx) Z4;have Q4:=aQ Q3 hx Z4;have F4:=yz (((yy F3).kept (yy Q3).lt hx).kept ((yy Q3).kept hx).lt Z4);have R4:=aQ R3 hx Z4;have G4:=yz (((yy G3).kept (yy R3).lt hx).kept ((yy R3).kept hx).lt Z4);have C4:=aQ C3 hx Z4;have O4:=dl w4 P1 P2 P3 P4 Pk 108;clear hx Z4 B3 T3 U3 Q3 F3 R3 G3 C3 cX;obtain⟨o0,o1,o2,o3,o4⟩:=O4;by_cases hk:Pk=0
 ·have HO3:=hO3 hk;clear hO3 hO4;subst hk;obtain⟨q0,q1,q2,q3,q4,q5,q6,q7,q8⟩:=yy Q4;obtain⟨⟨r0,r1,r2,r3,r4,r5,r6,r7,r8⟩,r9⟩:=yy R4;have e3:=yy F4 3;have e4:=yy F4 4;have e5:=yy F4 5;have e6:=yy F4 6;have f0:=yy G4 0;have f1:=yy G4 1;have f2:=yy G4 2;have f3:=yy G4 3;have f4:=yy G4 4;have f5:=yy G4 5;have f6:=yy G4 6;have f7:=yy G4 7;have f8:=yy G4 8;have f9:=yy G4 9;have hne1:w.heap.size+1+1≠qb:=by omega
  have hne2:qb≠w.heap.size+1+1:=by omega
  go_wp2_with fail;clear q0 q1 q2 q3 q4 q5 q6 q7 q8 r0 r1 r2 r3 r4 r5 r6 r7 r8 r9 e3 e4 e5 e6 f0 f1 f2 f3 f4 f5 f6 f7 f8 f9 o0 o1 o2 o3 o4;refine bodyPost_ret (v:=.agg #[.slice a L.length cap,J Z lim,J Z mode,J Z P1,J Z P2,J Z P3,J Z P4,J Z coast,J Z fr,J Z 0]) ?_ rfl ⟨?_,?_⟩
  ·refine jE _ _ (w.heap.size+1+1) _ lim mode P1 P2 P3 P4 coast fr 0 rfl ?_;refine bJ (lim0:=0) (mode0:=0) (A0:=0) (B0:=0) (C0:=0) (D0:=0) (coast0:=0) (fr0:=0) (code0:=0) (u:=.slice none 0 0) ?_ _ lim mode P1 P2 P3 P4 coast fr 0;iterate 4 (refine TkO.far ?_ hne1 _ _)
   exact yy R4
  ·rw[yy HO1,yy HO2,yy HO3];refine⟨a,cap,rfl,?_⟩;refine aC.low (B:=w.heap.size+1+1+1) ?_ (by omega);iterate 10 (refine aC.far ?_ (Nat.lt_succ_self (w.heap.size+1+1)) _ _)
   iterate 4 (refine aC.off ?_ (fun x e=>Nat.ne_of_lt (hqr x e)) _ _)
   exact yy C4
  ·iterate 10 (refine aG ?_ (show w.heap.size≤w.heap.size+1+1 by omega) _ _)
   iterate 4 (refine aG ?_ (show w.heap.size≤qb by omega) _ _)
   exact yy B4
 ·have HO3:=hO4 hk;clear hO3 hO4;obtain⟨q0,q1,q2,q3,q4,q5,q6,q7,q8⟩:=yy Q4;go_wp2_with fail;clear q0 q1 q2 q3 q4 q5 q6 q7 q8 o0 o1 o2 o3 o4;refine(jc lim mode A B C D coast fr a L.length cap _).mono ?_;rintro e w5 ⟨rfl,hx⟩;have B5:=ax B4 hx;have R5:=ap R4 hx;have G5:=yz ((yy G4).kept (yy R4).lt hx);have C5:=ap C4 hx;clear hx B4 R4 G4 C4;obtain⟨⟨r0,r1,r2,r3,r4,r5,r6,r7,r8⟩,r9⟩:=yy R5;have g0:=yy G5 0;have g1:=yy G5 1;have g2:=yy G5 2;have g3:=yy G5 3;have g4:=yy G5 4;have g5:=yy G5 5;have g6:=yy G5 6;have g7:=yy G5 7;have g8:=yy G5 8;have g9:=yy G5 9;go_wp2_with fail;clear r0 r1 r2 r3 r4 r5 r6 r7 r8 r9 g0 g1 g2 g3 g4 g5 g6 g7 g8 g9;refine bodyPost_ret (v:=.agg #[.slice a L.length cap,J Z lim,J Z 0,J Z 0,J Z 0,J Z 0,J Z 0,J Z 0,J Z fr,J Z 0]) ?_ rfl ⟨?_,?_⟩
  ·refine jE _ _ (w.heap.size+1+1) _ lim 0 0 0 0 0 0 fr 0 rfl ?_;exact bJ (yy R5) _ _ _ _ _ _ _ _ _ _
  ·rw[yy HO1,yy HO2,yy HO3];refine⟨a,cap,rfl,?_⟩;refine aC.low (B:=w.heap.size+1+1+1) ?_ (by omega);iterate 10 (refine aC.far ?_ (Nat.lt_succ_self (w.heap.size+1+1)) _ _)
   exact yy C5
  ·iterate 10 (refine aG ?_ (show w.heap.size≤w.heap.size+1+1 by omega) _ _)
   exact yy B5
end
end Go.Proofs.YtdchjcadhlkpfaaGreatDoor
