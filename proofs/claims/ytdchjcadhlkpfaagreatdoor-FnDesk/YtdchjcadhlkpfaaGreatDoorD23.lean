/- Several texts in one: ModK, DsF. -/
import Derived.Test.YtdchjcadhlkpfaaGreatDoorD22
namespace Go.Proofs.YtdchjcadhlkpfaaGreatDoor
set_option linter.unusedVariables false
set_option linter.unusedSimpArgs false
set_option maxRecDepth 100000
set_option maxHeartbeats 8000000
section
open Go.Value renaming int → J
open Go.IntKind renaming i64 → Z
open Go.RowKit Go.Sort
theorem sf(L:List St)(lim mode A B C D coast fr:Int)(ad:Option Addr)(c:Nat)(p:Addr)(w:World)(hn:L.length≤1048576)(hcap:L.length≤c)(hc9:c≤9223372036854775807)(hE:bE p w)(hS:aZ w ad L L.length):
  Calls Tryz.prog 121 #[.agg #[.slice ad L.length c,J Z lim,J Z mode,J Z A,J Z B,J Z C,J Z D,J Z coast,J Z fr]] w fun e w'=>pA w' w.heap.size (eF ⟨L,lim,mode,A,B,C,D,coast,fr⟩) (gK ⟨L,lim,mode,A,B,C,D,coast,fr⟩) e∧Below w.heap.size w w':=by
 have B0:=aX w (.cells #[.slice ad L.length c,J Z lim,J Z mode,J Z A,J Z B,J Z C,J Z D,J Z coast,J Z fr] 45) (.cells #[.slice none 0 0,J Z 0,J Z 0,J Z 0,J Z 0,J Z 0,J Z 0,J Z 0,J Z 0,J Z 0] 47);have T0:=(dY w (.slice ad L.length c) lim mode A B C D coast fr 45).kept (an _ (.cells #[.slice none 0 0,J Z 0,J Z 0,J Z 0,J Z 0,J Z 0,J Z 0,J Z 0,J Z 0,J Z 0] 47));have R0:=(by simpa using lG (w.alloc (.cells #[.slice ad L.length c,J Z lim,J Z mode,J Z A,J Z B,J Z C,J Z D,J Z coast,J Z fr] 45)) (.slice none 0 0) 0 0 0 0 0 0 0 0 0 47:TkO ((w.alloc (.cells #[.slice ad L.length c,J Z lim,J Z mode,J Z A,J Z B,J Z C,J Z D,J Z coast,J Z fr] 45)).alloc (.cells #[.slice none 0 0,J Z 0,J Z 0,J Z 0,J Z 0,J Z 0,J Z 0,J Z 0,J Z 0,J Z 0] 47)) (w.heap.size+1) (.slice none 0 0) 0 0 0 0 0 0 0 0 0)
 have G0:=(by simpa using dS (w.alloc (.cells #[.slice ad L.length c,J Z lim,J Z mode,J Z A,J Z B,J Z C,J Z D,J Z coast,J Z fr] 45)) #[.slice none 0 0,J Z 0,J Z 0,J Z 0,J Z 0,J Z 0,J Z 0,J Z 0,J Z 0,J Z 0] 47:gk ((w.alloc (.cells #[.slice ad L.length c,J Z lim,J Z mode,J Z A,J Z B,J Z C,J Z D,J Z coast,J Z fr] 45)).alloc (.cells #[.slice none 0 0,J Z 0,J Z 0,J Z 0,J Z 0,J Z 0,J Z 0,J Z 0,J Z 0,J Z 0] 47)) (w.heap.size+1))
 have hsz:w.heap.size+2≤((w.alloc (.cells #[.slice ad L.length c,J Z lim,J Z mode,J Z A,J Z B,J Z C,J Z D,J Z coast,J Z fr] 45)).alloc (.cells #[.slice none 0 0,J Z 0,J Z 0,J Z 0,J Z 0,J Z 0,J Z 0,J Z 0,J Z 0,J Z 0] 47)).heap.size:=by simp
 have S0:=hS.kept B0;have cR:=yz (gO L lim mode A B C D coast fr ad c p _ hn hcap hc9 S0 (hE.kept B0));have cC:=yz (fun W h=>kr L lim mode A B C D coast fr ad c W hn h);have HB:=yz B0;have HT:=yz T0;have HR:=yz R0;have HG:=yz G0;have HS:=yz S0;clear B0 T0 R0 G0 S0 hS;go_enter Tryz.func121,Tryz.ntmps121;go_wp2_with fail;generalize (w.alloc (.cells #[.slice ad L.length c,J Z lim,J Z mode,J Z A,J Z B,J Z C,J Z D,J Z coast,J Z fr] 45)).alloc (.cells #[.slice none 0 0,J Z 0,J Z 0,J Z 0,J Z 0,J Z 0,J Z 0,J Z 0,J Z 0,J Z 0] 47)=W at *;refine(yy cR).mono ?_;rintro e w1 ⟨rfl,hx⟩;have B1:=ax HB hx;have T1:=ap HT hx;have R1:=ap HR hx;have G1:=yz ((yy HG).kept (yy HR).lt hx);have S1:=ap HS hx;have hsz1:w.heap.size+2≤w1.heap.size:=Nat.le_trans hsz hx.size;clear hx HB HT HR HG HS hsz cR;cases hk:aH ⟨L,lim,mode,A,B,C,D,coast,fr⟩
 ·have HO1:Hid (eF ⟨L,lim,mode,A,B,C,D,coast,fr⟩=fO):=yz (by unfold eF;rw[hk];rfl);have HO2:Hid (gK ⟨L,lim,mode,A,B,C,D,coast,fr⟩=1):=yz (by unfold gK;rw[hk];rfl);have B2:=B1;have R2:=R1;have G2:=G1;clear B1 R1 G1;obtain⟨⟨r0,r1,r2,r3,r4,r5,r6,r7,r8⟩,r9⟩:=yy R2;have g0:=yy G2 0;have g1:=yy G2 1;have g2:=yy G2 2;have g3:=yy G2 3;have g4:=yy G2 4;have g5:=yy G2 5;have g6:=yy G2 6;have g7:=yy G2 7;have g8:=yy G2 8;have g9:=yy G2 9;go_wp2_with fail;clear r0 r1 r2 r3 r4 r5 r6 r7 r8 r9 g0 g1 g2 g3 g4 g5 g6 g7 g8 g9;refine bodyPost_ret (v:=.agg #[.slice none 0 0,J Z 0,J Z 0,J Z 0,J Z 0,J Z 0,J Z 0,J Z 0,J Z 0,J Z 1]) ?_ rfl ⟨?_,?_⟩
  ·refine ro _ _ (w.heap.size+1) _ 0 0 0 0 0 0 0 0 1 rfl ?_;exact bJ (yy R2) _ _ _ _ _ _ _ _ _ _
  ·rw[yy HO1,yy HO2];exact ce _ _ _
  ·iterate 10 (refine aG ?_ (show w.heap.size≤w.heap.size+1 by omega) _ _)
   exact yy B2
 ·have HO1:Hid (eF ⟨L,lim,mode,A,B,C,D,coast,fr⟩=⟨L,lim,0,0,0,0,0,0,fr⟩):=yz (by unfold eF;rw[hk];rfl);have HO2:Hid (gK ⟨L,lim,mode,A,B,C,D,coast,fr⟩=0):=yz (by unfold gK;rw[hk];rfl);clear hk;obtain⟨s0,s1,s2,s3,s4,s5,s6,s7,s8⟩:=yy T1;go_wp2_with fail;clear s0 s1 s2 s3 s4 s5 s6 s7 s8;refine(yy cC _ (yy S1)).mono ?_;rintro e w2 ⟨a,cap,rfl,hC,hx⟩;have B2:=ax B1 hx;have R2:=ap R1 hx;have G2:=yz ((yy G1).kept (yy R1).lt hx);have C2:=yz (hC.low (B':=w.heap.size+2) (by omega));clear hx hC B1 R1 G1 T1 S1 cC;go_wp2_with fail;refine(lM lim mode A B C D coast fr a L.length cap _).mono ?_;rintro e w2b ⟨rfl,hx⟩;have B2b:=ax B2 hx;have R2b:=ap R2 hx;have G2b:=yz ((yy G2).kept (yy R2).lt hx);have C2b:=ap C2 hx;clear hx B2 R2 G2 C2;go_wp2_with fail;refine(nY lim 0 0 0 0 0 0 fr a L.length cap _).mono ?_;rintro e w3 ⟨rfl,hx⟩;have B3:=ax B2b hx;have R3:=ap R2b hx;have G3:=yz ((yy G2b).kept (yy R2b).lt hx);have C3:=ap C2b hx;clear hx B2b R2b G2b C2b;obtain⟨⟨r0,r1,r2,r3,r4,r5,r6,r7,r8⟩,r9⟩:=yy R3;have g0:=yy G3 0;have g1:=yy G3 1;have g2:=yy G3 2;have g3:=yy G3 3;have g4:=yy G3 4;have g5:=yy G3 5;have g6:=yy G3 6;have g7:=yy G3 7;have g8:=yy G3 8;have g9:=yy G3 9;go_wp2_with fail;clear r0 r1 r2 r3 r4 r5 r6 r7 r8 r9 g0 g1 g2 g3 g4 g5 g6 g7 g8 g9;refine bodyPost_ret (v:=.agg #[.slice a L.length cap,J Z lim,J Z 0,J Z 0,J Z 0,J Z 0,J Z 0,J Z 0,J Z fr,J Z 0]) ?_ rfl ⟨?_,?_⟩
  ·refine ro _ _ (w.heap.size+1) _ lim 0 0 0 0 0 0 fr 0 rfl ?_;exact bJ (yy R3) _ _ _ _ _ _ _ _ _ _
  ·rw[yy HO1,yy HO2];refine⟨a,cap,rfl,?_⟩;refine aC.low (B:=w.heap.size+2) ?_ (by omega);iterate 10 (refine aC.far ?_ (show w.heap.size+1<w.heap.size+2 by omega) _ _)
   exact yy C3
  ·iterate 10 (refine aG ?_ (show w.heap.size≤w.heap.size+1 by omega) _ _)
   exact yy B3
end
section
open Go.Value renaming int → J
open Go.IntKind renaming i64 → Y
open Go.RowKit
def lnC(l:Ln):List Value:=[fnV (fd l.k),bT l.t,J Y l.n]
def gH(L:List Ln):List Value:=L.flatMap lnC
theorem wA(L:List Ln)(l:Ln):gH (L ++ [l])=gH L ++ lnC l:=by unfold gH;rw[List.flatMap_append];simp
def eS(s:ByteArray):List Ln ⊕ Nat:=cx 0 (pcs 10 s.data.toList)
def dJ(s:ByteArray):List Ln:=if 8000<s.size then [] else match eS s with | .inl ls=>ls | .inr _=>[]
def fE(s:ByteArray):Int:=if 8000<s.size then 0 else match eS s with | .inl _=>0 | .inr i=>(i:Int)
def dA(s:ByteArray):Int:=if 8000<s.size then 2 else match eS s with | .inl _=>0 | .inr _=>3
def Ck(s:ByteArray)(w':World)(B:Nat)(e:Ending):Prop:=∃v,e=.returned (.tuple #[v,.agg #[.string ⟨#[]⟩,J Y (fE s),J Y (dA s)]])∧w'.ownsRow B 92 3 v (dJ s).length (gH (dJ s))
def iF(s:ByteArray)(done:List Ln)(rem:List UInt8):Prop:=eS s=match cx done.length (pcs 10 rem) with | .inl ls=>.inl (done ++ ls) | .inr j=>.inr j
variable {s:ByteArray} {v:Value} {w:World}
theorem DG{done:List Ln}(h:iF s done []):eS s=.inl done:=by
 unfold iF at h;rw[h];show Sum.inl (done ++ [])=_;rw[List.append_nil]
theorem mq(i:Nat)(a:List UInt8)(b:List UInt8):cx i (a :: pcs 10 b)=match bq a with | none=>.inr i | some l=>if 40≤i then .inr i else match cx (i+1) (pcs 10 b) with | .inl ls=>.inl (l :: ls) | .inr j=>.inr j:=by
 cases h:pcs 10 b with
 | nil=>exact absurd h (kj _ _)
 | cons q r=>rfl
theorem DF{done:List Ln}{a b:List UInt8}(ha:10 ∉ a)(h:iF s done (a ++ 10 :: b))(hl:bq a=none):eS s=.inr done.length:=by
 unfold iF at h;rw[lA ha,mq,hl]at h;exact h
theorem BE{done:List Ln}{a b:List UInt8}{l:Ln}(ha:10 ∉ a)(h:iF s done (a ++ 10 :: b))(hl:bq a=some l)(h40:40≤done.length):eS s=.inr done.length:=by
 unfold iF at h;rw[lA ha,mq,hl]at h;dsimp only at h;rw[if_pos h40]at h;exact h
theorem BG{done:List Ln}{a:List UInt8}(ha:10 ∉ a)(hn:a≠[])(h:iF s done a):eS s=.inr done.length:=by
 unfold iF at h;rw[jC ha]at h;have e:cx done.length [a]=.inr done.length:=by show (if a=[] then _ else _)=_;rw[if_neg hn]
 rw[e]at h;exact h
theorem BF{done:List Ln}{a b:List UInt8}{l:Ln}(ha:10 ∉ a)(h:iF s done (a ++ 10 :: b))(hl:bq a=some l)(h40:¬40≤done.length):iF s (done ++ [l]) b:=by
 unfold iF at h ⊢;rw[lA ha,mq,hl]at h;dsimp only at h;rw[if_neg h40]at h;rw[h,show (done ++ [l]).length=done.length+1 by simp];cases cx (done.length+1) (pcs 10 b) with
 | inl ls=>simp
 | inr j=>rfl
theorem xK(hs:¬8000<s.size){i:Nat}(h:eS s=.inr i):dJ s=[]∧fE s=(i:Int)∧dA s=3:=by
 unfold dJ fE dA;rw[if_neg hs,if_neg hs,if_neg hs,h];exact⟨rfl,rfl,rfl⟩
theorem Am(hs:¬8000<s.size){L:List Ln}(h:eS s=.inl L):dJ s=L∧fE s=0∧dA s=0:=by
 unfold dJ fE dA;rw[if_neg hs,if_neg hs,if_neg hs,h];exact⟨rfl,rfl,rfl⟩
theorem DK(hs:8000<s.size):dJ s=[]∧fE s=0∧dA s=2:=by
 unfold dJ fE dA;rw[if_pos hs,if_pos hs,if_pos hs];exact⟨rfl,rfl,rfl⟩
def Gk:Value→Nat
 | .string b=>b.size
 | _=>0
theorem EK:∃i:TypeInfo,Tryz.prog.info? 92=some i∧i.zero=some (.agg #[.nilFunc,.string ⟨#[]⟩,J Y 0])∧i.size=3∧i.bytes=32:=by
 have h:(Tryz.prog.info? 92).map (fun i=>(i.zero,i.size,i.bytes))=some (some (.agg #[.nilFunc,.string ⟨#[]⟩,J Y 0]),3,32):=by kernel_rfl
 cases hi:Tryz.prog.info? 92 with
 | none=>rw[hi]at h;cases h
 | some i=>
  rw[hi]at h;have:=Option.some.inj h;simp only[Prod.mk.injEq]at this;exact⟨i,rfl,this.1,this.2.1,this.2.2⟩
theorem mw(T:Array Value)(X:World)(b:Nat)(v:Value)(n c:Int)(hT2:T.getD 2 undef=v)(hT:T.getD 3 undef=.pointer (some ⟨b,0,none⟩))(h:Blk X b [.string ⟨#[]⟩,J Y n,J Y c] 25):(results Tryz.f22 T).run Tryz.prog X=.ok (.tuple #[v,.agg #[.string ⟨#[]⟩,J Y n,J Y c]]) X:=by
 obtain⟨h0,h1,h2⟩:=jN (h);simp only[Array.getD_eq_getD_getElem?]at hT hT2;simp[results,Tryz.results22,go_sem,hT,hT2,h0,h1,h2]
theorem DD{B n m b:Nat}{t:TypeId}{xs:List Value}(h:w.ownsRow B t m v n xs)(hb:b<B)(o:Nat)(x:Value):(w.setCell ⟨b,o,none⟩ x).ownsRow B t m v n xs:=by
 obtain⟨h1,h2⟩:=h;refine⟨h1,?_⟩;rcases h2 with h2 | ⟨g,c',cur,e,hg,hh,r⟩
 ·exact .inl h2
 ·exact .inr ⟨g,c',cur,e,hg,by rw[Below.heap_setCell w ⟨b,o,none⟩ x g (by show g≠b;omega)];exact hh,r⟩
theorem oH(w:World)(vs:List Value)(t:TypeId):∀(j:Nat) (u:Value),vs[j]? = some u→(w.alloc (.cells vs.toArray t)).cell? ((⟨w.heap.size,0,none⟩:Addr).add j)=some u:=by
 intro j u hj;have e:(⟨w.heap.size,0,none⟩:Addr).add j=⟨w.heap.size,j,none⟩:=by cases j<;>simp[Addr.add]
 rw[e];simp[hj]
structure AB (w wr:World) (v:Value) (done:List Ln):Prop where
 out:Blk wr w.heap.size [.string ⟨#[]⟩,J Y 0,J Y 0] 25
 row:wr.ownsRow (w.heap.size+1) 92 3 v done.length (gH done)
 bel:Below w.heap.size w wr
 low:w.heap.size+1≤wr.heap.size
theorem AB.kept{w1 w2:World}{done:List Ln}(h:AB w w1 v done)(hx:Below w1.heap.size w1 w2):AB w w2 v done:=
 ⟨h.out.kept hx,BD h.row hx,ak h.bel hx,Nat.le_trans h.low hx.size⟩
theorem nF(s:ByteArray)(w:World)(hs:s.size≤1048576)(hm:mL w):
  Calls Tryz.prog 22 #[.string s] w fun e w'=>Ck s w' w.heap.size e∧Below w.heap.size w w':=by
 have B0:=an w (.cells #[.string ⟨#[]⟩,J Y 0,J Y 0] 25);have R0:=aq w [.string ⟨#[]⟩,J Y 0,J Y 0] 25;have HM:=yz hm;clear hm;by_cases hb:8000<s.size
 ·have hb':(8000:Int)<(s.size:Int):=by omega
  have HO:=yz (DK hb);go_enter Tryz.func22,Tryz.ntmps22;go_wp2;refine bodyPost_ret (v:=.tuple #[.slice none 0 0,.agg #[.string ⟨#[]⟩,J Y 0,J Y 2]]) ?_ rfl ⟨⟨_,by rw[(yy HO).2.1,(yy HO).2.2],by rw[(yy HO).1];exact World.ownsRow_nil _ _ _ _⟩,an _ _⟩
  ·simp[results,Tryz.results22,go_sem]
 have hb':¬(8000:Int)<(s.size:Int):=by omega
 have HG:=yz (fun L h=>Am (s:=s) hb (L:=L) h);have HFT:=yz (fun i h=>xK (s:=s) hb (i:=i) h);have HST:Hid (AB w (w.alloc (.cells #[.string ⟨#[]⟩,J Y 0,J Y 0] 25)) (.slice none 0 0) []):=yz ⟨R0,World.ownsRow_nil _ _ _ _,B0,by simp⟩;have HP:Hid (iF s [] s.data.toList):=yz (by unfold iF eS;rw[show ([]:List Ln).length=0 from rfl];cases cx 0 (pcs 10 s.data.toList)<;>rfl);obtain⟨i0,hinf,hz0,hz1,hz2⟩:=EK;have hm8:10000≤maxLen:=by decide +kernel
 clear B0 R0;go_enter Tryz.func22,Tryz.ntmps22;go_wp2_with fail;generalize w.alloc (.cells #[.string ⟨#[]⟩,J Y 0,J Y 0] 25)=W0 at *;go_loopw [0,4] (fun t v wr=>∃(rem:ByteArray) (done:List Ln),t=.string rem∧rem.size≤8000∧done.length≤40∧Hid (iF s done rem.data.toList)∧Hid (AB w wr v done)) (fun t _ _=>Gk t)
 case atStart=>exact⟨s,[],rfl,by omega,by simp,HP,HST⟩
 case round=>
  clear HP HST;obtain⟨rem,done,rfl,hrs,hd40,HP,HST⟩:=hrel
  obtain⟨a4,c4,rfl⟩:∃a4 c4,u4=.slice a4 done.length c4:=by
   rcases(yy HST).row.2 with ⟨h1,h0⟩ | ⟨g,c',cur,e,_⟩
   ·exact⟨none,0,by rw[h1,h0]⟩
   ·exact⟨_,_,e⟩
  by_cases hr0:rem=⟨#[]⟩
  ·subst hr0;have HR:=yz (yy HG done (DG (yy HP)));have r0:=(yy HST).out.cell 0 _ rfl;have r1:=(yy HST).out.cell 1 _ rfl;have r2:=(yy HST).out.cell 2 _ rfl;have f0:=(yy HST).out.free 0;have f1:=(yy HST).out.free 1;have f2:=(yy HST).out.free 2;go_wp2;refine bodyPost_ret (v:=.tuple #[.slice a4 done.length c4,.agg #[.string ⟨#[]⟩,J Y 0,J Y 0]]) ?_ rfl ⟨⟨_,by rw[(yy HR).2.1,(yy HR).2.2],?_⟩,?_⟩
   ·refine mw _ _ w.heap.size _ _ _ rfl rfl ?_;exact(((yy HST).out.set 0 _).set 1 _).set 2 _
   ·rw[(yy HR).1];refine DC (B:=w.heap.size+1) ?_ (by omega);iterate 3 (refine DD ?_ (Nat.lt_succ_self w.heap.size) _ _)
    exact(yy HST).row
   ·iterate 3 (refine Below.setCell ?_ (Nat.le_refl w.heap.size) _)
    exact(yy HST).bel
  ·have hne:(rem.toList==[])=false:=fQ (l:=[]) hr0;have hne2:rem.data.toList≠[]:=fun e=>hr0 (ByteArray.ext (by have:=congrArg List.toArray e;simpa using this));obtain⟨n,hn⟩:∃n,done.length=n:=⟨_,rfl⟩
   have HN:=yz hn;rw[hn]at hd40 ⊢;clear hn;have cC:=yz (Ex rem 10 wr hrs ((yy HM).kept (yy HST).bel));by_cases h10:(10:UInt8)∈rem.data.toList
   ·obtain⟨a,b,hab,ha⟩:=qz h10;rw[hab]at HP;rw[hab,Ey ha]at cC;dsimp only at cC;have hsz:a.length+1+b.length=rem.size:=by rw[←be,hab];simp;omega
    obtain⟨ab,hab2⟩:∃ab:ByteArray,(⟨a.toArray⟩:ByteArray)=ab:=⟨_,rfl⟩
    obtain⟨bb,hbb⟩:∃bb:ByteArray,(⟨b.toArray⟩:ByteArray)=bb:=⟨_,rfl⟩
    have hA:ab.data.toList=a:=by rw[←hab2]
    have hBB:bb.data.toList=b:=by rw[←hbb]
    have has:ab.size≤8000:=by rw[←be,hA];omega
    have hbs:bb.size<rem.size:=by rw[←be,hBB];omega
    unfold bT at cC;rw[hab2,hbb]at cC;have HA:=yz hA;have HBB:=yz hBB;clear hab hab2 hbb hsz h10 hA hBB hne2;go_wp2_with fail;refine(yy cC).mono ?_;rintro e W1 ⟨rfl,hx⟩;have HST1:=ap HST hx;clear hx HST cC;have cR:=yz (nG ab W1 has ((yy HM).kept (yy HST1).bel));go_wp2_with fail;refine(yy cR).mono ?_;rintro e W2 ⟨he,hx⟩;have HST2:=ap HST1 hx;clear hx HST1 cR;unfold vX at he;rw[yy HA]at he;rcases he with ⟨l,hl,hlk,rfl⟩ | ⟨hl,f,t,nn,hf,rfl⟩
    ·obtain⟨tb,htb⟩:∃tb:ByteArray,(⟨l.t.toArray⟩:ByteArray)=tb:=⟨_,rfl⟩
     have HTB:Hid (lnC l=[.func (.func (fd l.k)) #[] #[],.string tb,J Y l.n]):=yz (by unfold lnC bT fnV;rw[htb]);unfold bT fnV;rw[htb];obtain⟨ln,hln⟩:∃ln,l.n=ln:=⟨_,rfl⟩
     obtain⟨df,hdf⟩:∃df,fd l.k=df:=⟨_,rfl⟩
     rw[hln,hdf]at HTB ⊢;clear htb hln hdf;have Z:=an W2 (.cells #[.func (.func df) #[] #[],.string tb,J Y ln] 92);have HST3:=ap HST2 Z;have D3:=yz (aq W2 [.func (.func df) #[] #[],.string tb,J Y ln] 92);clear Z HST2;go_upto_region 7 with fail;generalize W2.alloc (.cells #[.func (.func df) #[] #[],.string tb,J Y ln] 92)=W3 at *;generalize W2.heap.size=lb at *;by_cases h40:n=40
     ·subst h40;have HR:=yz (yy HFT done.length (BE ha (yy HP) hl (by rw[yy HN];omega)));rw[yy HN]at HR;have r0:=(yy HST3).out.cell 0 _ rfl;have r1:=(yy HST3).out.cell 1 _ rfl;have r2:=(yy HST3).out.cell 2 _ rfl;have f0:=(yy HST3).out.free 0;have f1:=(yy HST3).out.free 1;have f2:=(yy HST3).out.free 2;go_wp2;refine bodyPost_ret (v:=.tuple #[.slice none 0 0,.agg #[.string ⟨#[]⟩,J Y 40,J Y 3]]) ?_ rfl ⟨⟨_,by rw[(yy HR).2.1,(yy HR).2.2];rfl,by rw[(yy HR).1];exact World.ownsRow_nil _ _ _ _⟩,?_⟩
      ·refine mw _ _ w.heap.size _ _ _ rfl rfl ?_;exact(((yy HST3).out.set 0 _).set 1 _).set 2 _
      ·iterate 3 (refine Below.setCell ?_ (Nat.le_refl w.heap.size) _)
       exact(yy HST3).bel
     ·have h40':((n:Int)==40)=false:=by simpa using(show (n:Int)≠40 by omega)
      have HP2:Hid (iF s (done ++ [l]) bb.data.toList):=yz (by rw[yy HBB];exact BF ha (yy HP) hl (by rw[yy HN];omega));obtain⟨d0,d1,d2⟩:=jN (yy D3);have Z1:=an W3 (.cells #[.func (.func df) #[] #[],.string tb,J Y ln] 92);have ST4:=(yy HST3).kept Z1;have hown:=ST4.row;rw[yy HN]at hown;clear Z1 HST3 HP;go_wp2_with (at_builtin;refine wpList_append_own _ rfl _ _ 57 rfl (w.heap.size+1) 92 i0 (.agg #[.nilFunc,.string ⟨#[]⟩,J Y 0]) 3 32 Tryz.underlying57 hinf hz0 hz1 hz2 rfl (by decide) _ _ _ rfl hown ⟨W3.heap.size,0,none⟩ 1 1 [.func (.func df) #[] #[],.string tb,J Y ln] rfl rfl ?d2 (fun u hu=>by simp at hu;rcases hu with rfl | rfl | rfl<;>rfl) ?d3 ?d4 ?d5 ?_)
      case d2=>exact oH _ _ _
      case d3=>omega
      case d4=>omega
      case d5=>exact ST4.low
      intro v7 V7 hown7 hgrow7 _;have HST7:Hid (AB w V7 v7 (done ++ [l])):=yz ⟨(hgrow7.block w.heap.size ST4.out.lt (fun e=>by have:=(hown.lt _ e.symm).1;omega)).trans ST4.out,by rw[wA,yy HTB,List.length_append,yy HN];exact hown7,kB ST4.bel hgrow7 (by have:=ST4.low;omega) (fun g e=>by have:=(hown.lt _ e).1;omega),Nat.le_trans ST4.low hgrow7.size⟩;clear hown7 hgrow7 hown ST4 d0 d1 d2 D3;go_wp2_with fail;go_roundw
      case rel=>exact⟨bb,done ++ [l],rfl,by omega,by rw[List.length_append,yy HN];show n+1≤40;omega,HP2,HST7⟩
      case measure=>show bb.size<rem.size;exact hbs
    ·have HR:=yz (yy HFT done.length (DF ha (yy HP) hl));rw[yy HN]at HR;rcases hf with rfl | ⟨x,rfl⟩
     ·skip;have Z:=an W2 (.cells #[.nilFunc,.string t,J Y nn] 92);have HST3:=ap HST2 Z;clear Z HST2;go_upto_region 7 with fail;generalize W2.alloc (.cells #[.nilFunc,.string t,J Y nn] 92)=W3 at *;generalize W2.heap.size=lb at *;have r0:=(yy HST3).out.cell 0 _ rfl;have r1:=(yy HST3).out.cell 1 _ rfl;have r2:=(yy HST3).out.cell 2 _ rfl;have f0:=(yy HST3).out.free 0;have f1:=(yy HST3).out.free 1;have f2:=(yy HST3).out.free 2;go_wp2;refine bodyPost_ret (v:=.tuple #[.slice none 0 0,.agg #[.string ⟨#[]⟩,J Y n,J Y 3]]) ?_ rfl ⟨⟨_,by rw[(yy HR).2.1,(yy HR).2.2],by rw[(yy HR).1];exact World.ownsRow_nil _ _ _ _⟩,?_⟩
      ·refine mw _ _ w.heap.size _ _ _ rfl rfl ?_;exact(((yy HST3).out.set 0 _).set 1 _).set 2 _
      ·iterate 3 (refine Below.setCell ?_ (Nat.le_refl w.heap.size) _)
       exact(yy HST3).bel
     ·unfold fnV;have Z:=an W2 (.cells #[.func (.func x) #[] #[],.string t,J Y nn] 92);have HST3:=ap HST2 Z;clear Z HST2;go_upto_region 7 with fail;generalize W2.alloc (.cells #[.func (.func x) #[] #[],.string t,J Y nn] 92)=W3 at *;generalize W2.heap.size=lb at *;have r0:=(yy HST3).out.cell 0 _ rfl;have r1:=(yy HST3).out.cell 1 _ rfl;have r2:=(yy HST3).out.cell 2 _ rfl;have f0:=(yy HST3).out.free 0;have f1:=(yy HST3).out.free 1;have f2:=(yy HST3).out.free 2;go_wp2;refine bodyPost_ret (v:=.tuple #[.slice none 0 0,.agg #[.string ⟨#[]⟩,J Y n,J Y 3]]) ?_ rfl ⟨⟨_,by rw[(yy HR).2.1,(yy HR).2.2],by rw[(yy HR).1];exact World.ownsRow_nil _ _ _ _⟩,?_⟩
      ·refine mw _ _ w.heap.size _ _ _ rfl rfl ?_;exact(((yy HST3).out.set 0 _).set 1 _).set 2 _
      ·iterate 3 (refine Below.setCell ?_ (Nat.le_refl w.heap.size) _)
       exact(yy HST3).bel
   ·have HR:=yz (yy HFT done.length (BG h10 hne2 (yy HP)));rw[yy HN]at HR;rw[Cz h10]at cC;dsimp only at cC;unfold bT at cC;rw[show (⟨rem.data.toList.toArray⟩:ByteArray)=rem from ByteArray.ext (by simp)]at cC;clear HP HFT HG;go_wp2_with fail;refine(yy cC).mono ?_;rintro e W1 ⟨rfl,hx⟩;have HST1:=ap HST hx;clear hx HST cC;have cR:=yz (nG rem W1 hrs ((yy HM).kept (yy HST1).bel));go_wp2_with fail;refine(yy cR).mono ?_;rintro e W2 ⟨he,hx⟩;have HST2:=ap HST1 hx;clear hx HST1 cR;rcases he with ⟨l,hl,hlk,rfl⟩ | ⟨hl,f,t,nn,hf,rfl⟩
    ·obtain⟨t,ht⟩:∃tb:ByteArray,(⟨l.t.toArray⟩:ByteArray)=tb:=⟨_,rfl⟩
     unfold bT fnV;rw[ht];obtain⟨nn,hln⟩:∃ln,l.n=ln:=⟨_,rfl⟩
     obtain⟨df,hdf⟩:∃df,fd l.k=df:=⟨_,rfl⟩
     rw[hln,hdf];clear ht hln hdf;have Z:=an W2 (.cells #[.func (.func df) #[] #[],.string t,J Y nn] 92);have HST3:=ap HST2 Z;clear Z HST2;go_upto_region 7 with fail;generalize W2.alloc (.cells #[.func (.func df) #[] #[],.string t,J Y nn] 92)=W3 at *;generalize W2.heap.size=lb at *;have r0:=(yy HST3).out.cell 0 _ rfl;have r1:=(yy HST3).out.cell 1 _ rfl;have r2:=(yy HST3).out.cell 2 _ rfl;have f0:=(yy HST3).out.free 0;have f1:=(yy HST3).out.free 1;have f2:=(yy HST3).out.free 2;go_wp2;refine bodyPost_ret (v:=.tuple #[.slice none 0 0,.agg #[.string ⟨#[]⟩,J Y n,J Y 3]]) ?_ rfl ⟨⟨_,by rw[(yy HR).2.1,(yy HR).2.2],by rw[(yy HR).1];exact World.ownsRow_nil _ _ _ _⟩,?_⟩
     ·refine mw _ _ w.heap.size _ _ _ rfl rfl ?_;exact(((yy HST3).out.set 0 _).set 1 _).set 2 _
     ·iterate 3 (refine Below.setCell ?_ (Nat.le_refl w.heap.size) _)
      exact(yy HST3).bel
    ·rcases hf with rfl | ⟨x,rfl⟩
     ·skip;have Z:=an W2 (.cells #[.nilFunc,.string t,J Y nn] 92);have HST3:=ap HST2 Z;clear Z HST2;go_upto_region 7 with fail;generalize W2.alloc (.cells #[.nilFunc,.string t,J Y nn] 92)=W3 at *;generalize W2.heap.size=lb at *;have r0:=(yy HST3).out.cell 0 _ rfl;have r1:=(yy HST3).out.cell 1 _ rfl;have r2:=(yy HST3).out.cell 2 _ rfl;have f0:=(yy HST3).out.free 0;have f1:=(yy HST3).out.free 1;have f2:=(yy HST3).out.free 2;go_wp2;refine bodyPost_ret (v:=.tuple #[.slice none 0 0,.agg #[.string ⟨#[]⟩,J Y n,J Y 3]]) ?_ rfl ⟨⟨_,by rw[(yy HR).2.1,(yy HR).2.2],by rw[(yy HR).1];exact World.ownsRow_nil _ _ _ _⟩,?_⟩
      ·refine mw _ _ w.heap.size _ _ _ rfl rfl ?_;exact(((yy HST3).out.set 0 _).set 1 _).set 2 _
      ·iterate 3 (refine Below.setCell ?_ (Nat.le_refl w.heap.size) _)
       exact(yy HST3).bel
     ·unfold fnV;have Z:=an W2 (.cells #[.func (.func x) #[] #[],.string t,J Y nn] 92);have HST3:=ap HST2 Z;clear Z HST2;go_upto_region 7 with fail;generalize W2.alloc (.cells #[.func (.func x) #[] #[],.string t,J Y nn] 92)=W3 at *;generalize W2.heap.size=lb at *;have r0:=(yy HST3).out.cell 0 _ rfl;have r1:=(yy HST3).out.cell 1 _ rfl;have r2:=(yy HST3).out.cell 2 _ rfl;have f0:=(yy HST3).out.free 0;have f1:=(yy HST3).out.free 1;have f2:=(yy HST3).out.free 2;go_wp2;refine bodyPost_ret (v:=.tuple #[.slice none 0 0,.agg #[.string ⟨#[]⟩,J Y n,J Y 3]]) ?_ rfl ⟨⟨_,by rw[(yy HR).2.1,(yy HR).2.2],by rw[(yy HR).1];exact World.ownsRow_nil _ _ _ _⟩,?_⟩
      ·refine mw _ _ w.heap.size _ _ _ rfl rfl ?_;exact(((yy HST3).out.set 0 _).set 1 _).set 2 _
      ·iterate 3 (refine Below.setCell ?_ (Nat.le_refl w.heap.size) _)
       exact(yy HST3).bel
end
end Go.Proofs.YtdchjcadhlkpfaaGreatDoor
