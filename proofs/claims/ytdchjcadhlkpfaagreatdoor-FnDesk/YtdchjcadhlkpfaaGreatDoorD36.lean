/- Several texts in one: LkE. -/
import Derived.Test.YtdchjcadhlkpfaaGreatDoorD35
namespace Go.Proofs.YtdchjcadhlkpfaaGreatDoor
set_option linter.unusedVariables false
set_option linter.unusedSimpArgs false
set_option maxRecDepth 100000
set_option maxHeartbeats 8000000
section
open Go.Value renaming int → J
open Go.IntKind renaming i64 → Y
open Go.RowKit Go.Sort
theorem eE(T:Array Value)(X:World)(b:Nat)(v:Value)(lim mode A B C D coast fr code:Int)(hT:T.getD 4 undef=.pointer (some ⟨b,0,none⟩))(h:TkO X b v lim mode A B C D coast fr code):(results Tryz.f76 T).run Tryz.prog X=.ok (.agg #[v,J Y lim,J Y mode,J Y A,J Y B,J Y C,J Y D,J Y coast,J Y fr,J Y code]) X:=by
 obtain⟨⟨h0,h1,h2,h3,h4,h5,h6,h7,h8⟩,h9⟩:=h;simp only[Array.getD_eq_getD_getElem?]at hT;simp[results,Tryz.results76,go_sem,hT,h0,h1,h2,h3,h4,h5,h6,h7,h8,h9]
theorem jF(T:Array Value)(X:World)(b:Nat)(v:Value)(lim mode A B C D coast fr code:Int)(hT:T.getD 4 undef=.pointer (some ⟨b,0,none⟩))(h:TkO X b v lim mode A B C D coast fr code):(results Tryz.f53 T).run Tryz.prog X=.ok (.agg #[v,J Y lim,J Y mode,J Y A,J Y B,J Y C,J Y D,J Y coast,J Y fr,J Y code]) X:=by
 obtain⟨⟨h0,h1,h2,h3,h4,h5,h6,h7,h8⟩,h9⟩:=h;simp only[Array.getD_eq_getD_getElem?]at hT;simp[results,Tryz.results53,go_sem,hT,h0,h1,h2,h3,h4,h5,h6,h7,h8,h9]
theorem zH{L:List St}{S:List D3}(hk:bc L=true)(hp:ba S=true)(h0:bK L S=0):bh L S=jw L S (cj L S):=by
 have h12:=(cg hk).1;have h6:=(bS hp).1;obtain⟨e1,e2,e3⟩:=jy (L:=L) (S:=S) (by omega) (by unfold lN;rw[hk,hp];rfl);unfold bh;rw[e3,if_pos h0,e1]
theorem BY{L:List St}{S:List D3}(hk:bc L=true)(hp:ba S=true)(h0:bK L S≠0):(bh L S).2≠0:=by
 have h12:=(cg hk).1;have h6:=(bS hp).1;obtain⟨e1,e2,e3⟩:=jy (L:=L) (S:=S) (by omega) (by unfold lN;rw[hk,hp];rfl);unfold bh;rw[e3,if_neg h0];exact h0
theorem wY(L:List St)(S:List D3)(lim mode A B C D coast fr:Int)(ad:Option Addr)(c:Nat)(br:Option Addr)(dr:Nat)(w:World)(hn:L.length≤1048576)(hdr:S.length≤dr)(hd9:dr≤9223372036854775807)(hS:aZ w ad L L.length)(hD:dh w br S S.length)(hb:∀y,ad=some y→y.block<w.heap.size)(hB:∀y,br=some y→y.block<w.heap.size)(hsk:bc L=true)(hsp:ba S=true)(hm:mode=0∨mode=1∨mode=2)(hr:mode≠0→aD A B C D=true)(hc0:0≤coast)(hc5:coast≤5)(hf0:0≤fr)(hf1:fr≤1000000):
  Calls Tryz.prog 76 #[.agg #[.slice ad L.length c,J Y lim,J Y mode,J Y A,J Y B,J Y C,J Y D,J Y coast,J Y fr],.slice br S.length dr] w fun e w'=>pA w' w.heap.size (dO ⟨L,lim,mode,A,B,C,D,coast,fr⟩ S) 0 e∧Below w.heap.size w w':=by
 have hwr:wrap64 (fr+1)=fr+1:=au (by omega) (by omega);have hwc:wrap64 (coast+1)=coast+1:=au (by omega) (by omega);have B0:=yz (aX w (.cells #[.slice ad L.length c,J Y lim,J Y mode,J Y A,J Y B,J Y C,J Y D,J Y coast,J Y fr] 45) (.cells #[.slice none 0 0,J Y 0,J Y 0,J Y 0,J Y 0,J Y 0,J Y 0,J Y 0,J Y 0,J Y 0] 47));have A0:=yz ((aq w [.slice ad L.length c,J Y lim,J Y mode,J Y A,J Y B,J Y C,J Y D,J Y coast,J Y fr] 45).alloc (.cells #[.slice none 0 0,J Y 0,J Y 0,J Y 0,J Y 0,J Y 0,J Y 0,J Y 0,J Y 0,J Y 0] 47));have R0:=yz (by simpa using aq (w.alloc (.cells #[.slice ad L.length c,J Y lim,J Y mode,J Y A,J Y B,J Y C,J Y D,J Y coast,J Y fr] 45)) [.slice none 0 0,J Y 0,J Y 0,J Y 0,J Y 0,J Y 0,J Y 0,J Y 0,J Y 0,J Y 0] 47:Blk ((w.alloc (.cells #[.slice ad L.length c,J Y lim,J Y mode,J Y A,J Y B,J Y C,J Y D,J Y coast,J Y fr] 45)).alloc (.cells #[.slice none 0 0,J Y 0,J Y 0,J Y 0,J Y 0,J Y 0,J Y 0,J Y 0,J Y 0,J Y 0] 47)) (w.heap.size+1) [.slice none 0 0,J Y 0,J Y 0,J Y 0,J Y 0,J Y 0,J Y 0,J Y 0,J Y 0,J Y 0] 47);have hl0:w.heap.size+1+1≤((w.alloc (.cells #[.slice ad L.length c,J Y lim,J Y mode,J Y A,J Y B,J Y C,J Y D,J Y coast,J Y fr] 45)).alloc (.cells #[.slice none 0 0,J Y 0,J Y 0,J Y 0,J Y 0,J Y 0,J Y 0,J Y 0,J Y 0,J Y 0] 47)).heap.size:=by simp
 have cC:=yz (kS L lim mode A B C D coast fr ad c _ hn (hS.kept (yy B0)))
 have cM:Hid (mode≠0→∀W:World,Below w.heap.size w W→Calls Tryz.prog 99 #[.slice ad L.length c,.agg #[J Y A,J Y B,J Y C,J Y D],.slice br S.length dr] W fun e w'=>(∃v,e=.returned (.tuple #[v,J Y (aY (bQ L A B C D S):Int)]))∧Below W.heap.size W w'):=yz (fun h0 W h=>(uM L S _ br c dr A B C D W hsk (hr h0) hsp (hS.kept h) (hD.kept h)).mono fun e w' hh=>by
  obtain⟨⟨v,he,_⟩,hx⟩:=hh;rw[CR hsk (hr h0) hsp]at he
  exact⟨⟨v,he⟩,hx⟩)
 have cI:=yz (fun (W:World) (h:Below w.heap.size w W)=>kt L S ad br c dr W hsk hsp hdr hd9 (hS.kept h) (hD.kept h) (fun y e=>Nat.lt_of_lt_of_le (hb y e) h.size) (fun y e=>Nat.lt_of_lt_of_le (hB y e) h.size));obtain⟨⟨⟨t1,t2,t3,t4⟩,tc⟩,htv⟩:∃z,bh L S=z:=⟨_,rfl⟩
 have cF:Hid (bK L S=0→∀(W:World) (x:Option Addr) (k:Nat),Below w.heap.size w W→hU W x (cj L S) (cj L S).length→Calls Tryz.prog 101 #[.slice ad L.length c,.slice br S.length dr,.slice x (cj L S).length k] W fun e w'=>e=.returned (.agg #[J Y t1,J Y t2,J Y t3,J Y t4,J Y tc])∧Below W.heap.size W w'):=yz (fun h0 W x k h hN=>by
  have h1:=yT L S (cj L S) _ br x c dr k W (pf hsk hsp h0) (hS.kept h) (hD.kept h) hN;rw[AT hsk hsp h0,←zH hsk hsp h0,htv]at h1
  exact h1)
 have hTN:Hid (bK L S≠0→tc≠0):=yz (fun h0=>by have:=BY hsk hsp h0;rw[htv]at this;exact this);have hO1:Hid (mode≠0→2≤aY (bQ L A B C D S)→dO ⟨L,lim,mode,A,B,C,D,coast,fr⟩ S=⟨L,lim,1,A,B,C,D,0,fr+1⟩):=yz (fun h1 h2=>by unfold dO;rw[if_pos ⟨h1,h2⟩];rfl);have hO2:Hid (¬(mode≠0∧2≤aY (bQ L A B C D S))→tc=0→dO ⟨L,lim,mode,A,B,C,D,coast,fr⟩ S=⟨L,lim,1,t1,t2,t3,t4,0,fr+1⟩):=yz (fun h1 h2=>by unfold dO;dsimp only;rw[if_neg h1,htv,if_pos h2];rfl);have hO3:Hid (¬(mode≠0∧2≤aY (bQ L A B C D S))→tc≠0→dO ⟨L,lim,mode,A,B,C,D,coast,fr⟩ S=bt ⟨L,lim,mode,A,B,C,D,coast,fr+1⟩):=yz (fun h1 h2=>by unfold dO;dsimp only;rw[if_neg h1,htv,if_neg h2]);have hid:=qM L S;generalize aY (bQ L A B C D S)=cn at *;clear hS htv hsk hsp hr hf0 hf1 hid;have hm0:=hm;clear hm;go_enter Tryz.func76,Tryz.ntmps76;go_wp2_with fail;refine(yy cC).mono ?_;rintro e w2 ⟨a,cap,rfl,hC,hx⟩;have Z:=an w2 (.cells #[.slice a L.length cap,J Y lim,J Y mode,J Y A,J Y B,J Y C,J Y D,J Y coast,J Y (fr+1)] 45);have C2:=yz ((hC.low (B':=w.heap.size+1+1) (by omega)).kept Z);have hcb:∀y,a=some y→y.block<w2.heap.size:=fun y e=>(hC.block y e).2;have p8:=(((yy A0).kept hx).kept (an w2 (.cells #[.slice a L.length cap,J Y lim,J Y mode,J Y A,J Y B,J Y C,J Y D,J Y coast,J Y fr] 45))).cell 8 _ rfl;have A2:=aQ A0 hx Z;have R2:=aQ R0 hx Z;have B2:=ax (ax B0 hx) Z;have T2:=yz (aq w2 [.slice a L.length cap,J Y lim,J Y mode,J Y A,J Y B,J Y C,J Y D,J Y coast,J Y (fr+1)] 45);have hl2:w.heap.size+1+1≤w2.heap.size:=Nat.le_trans hl0 hx.size;have hD2:=yz (hD.kept (yy B2));clear hx hC Z A0 R0 B0 cC hl0 hD;have q0:=fR (yy A2);have s0:=fR (yy T2);have f0:=md (yy T2);by_cases h1:mode=0
 ·have hneg:¬(mode≠0∧2≤cn):=fun h=>h.1 h1;subst h1;go_wp2_with fail;clear q0 s0 f0 p8;refine(yy cI _ (yy B2)).mono ?_;rintro e w4 ⟨hO,hx⟩;obtain⟨x,k,rfl,hv⟩:=tL hO;have Z:=an w4 (.cells #[.slice x (cj L S).length k,J Y (fh L S),J Y (bK L S)] 83);have A4:=aQ A2 hx Z;have R4:=aQ R2 hx Z;have C4:=aQ C2 hx Z;have T4:=aQ T2 hx Z;have B4:=ax (ax B2 hx) Z;have I4:=yz (aq w4 [.slice x (cj L S).length k,J Y (fh L S),J Y (bK L S)] 83);have N4:=yz (hv.kept Z);clear hx hO hv Z;have cF4:Hid (bK L S=0→Calls Tryz.prog 101 #[.slice ad L.length c,.slice br S.length dr,.slice x (cj L S).length k] (w4.alloc (.cells #[.slice x (cj L S).length k,J Y (fh L S),J Y (bK L S)] 83)) fun e w'=>e=.returned (.agg #[J Y t1,J Y t2,J Y t3,J Y t4,J Y tc])∧Below (w4.alloc (.cells #[.slice x (cj L S).length k,J Y (fh L S),J Y (bK L S)] 83)).heap.size (w4.alloc (.cells #[.slice x (cj L S).length k,J Y (fh L S),J Y (bK L S)] 83)) w'):=yz (fun h0=>yy cF h0 _ x k (yy B4) (yy N4));clear N4;generalize (cj L S).length=nI at *;generalize bK L S=kd at *;generalize fh L S=kc at *;obtain⟨j0,j1,j2⟩:=jN (yy I4);have q0:=fR (yy A4);have s0:=fR (yy T4);have f0:=md (yy T4);by_cases h3:kd=0
  ·have cF5:=yz (yy cF4 h3);clear cF4;subst h3;go_wp2_with fail;clear j0 j1 j2 q0 s0 f0;refine(yy cF5).mono ?_;rintro e w5 ⟨rfl,hx⟩;have Z:=an w5 (.cells #[J Y t1,J Y t2,J Y t3,J Y t4,J Y tc] 108);have A5:=aQ A4 hx Z;have R5:=aQ R4 hx Z;have C5:=aQ C4 hx Z;have T5:=aQ T4 hx Z;have B5:=ax (ax B4 hx) Z;have U5:=yz (aq w5 [J Y t1,J Y t2,J Y t3,J Y t4,J Y tc] 108);clear hx Z cF5 A4 R4 C4 T4 B4 I4;obtain⟨j0,j1,j2,j3,j4⟩:=mS (yy U5);have q0:=fR (yy A5);have s0:=fR (yy T5);have f0:=md (yy T5);by_cases h4:tc=0
   ·have HO:=yz (yy hO2 hneg h4);subst h4;go_wp2_with fail;clear j0 j1 j2 j3 j4 q0 s0 f0;refine(kf lim _ A B C D coast (fr+1) t1 t2 t3 t4 a L.length cap _).mono ?_;rintro e w6 ⟨rfl,hx⟩;have R6:=ap R5 hx;have C6:=ap C5 hx;have B6:=ax B5 hx;clear hx;have r0:=gC (yy R6);have g0:=gD (yy R6);go_wp2_with fail;clear r0 g0;rw[yy HO];refine bodyPost_ret (v:=.agg #[.slice a L.length cap,J Y lim,J Y 1,J Y t1,J Y t2,J Y t3,J Y t4,J Y 0,J Y (fr+1),J Y 0]) ?_ rfl ⟨⟨a,cap,rfl,?_⟩,?_⟩
    ·refine eE _ _ (w.heap.size+1) _ lim 1 t1 t2 t3 t4 0 (fr+1) 0 rfl (dM (t:=47) (bH (L:=[.slice none 0 0,J Y 0,J Y 0,J Y 0,J Y 0,J Y 0,J Y 0,J Y 0,J Y 0,J Y 0]) (t:=47) ?_ rfl _ lim 1 t1 t2 t3 t4 0 (fr+1) 0));exact yy R6
    ·refine aC.low (B:=w.heap.size+1+1) ?_ (by omega);iterate 10 (refine aC.far ?_ (Nat.lt_succ_self (w.heap.size+1)) _ _)
     exact yy C6
    ·iterate 10 (refine aG ?_ (show w.heap.size≤w.heap.size+1 by omega) _ _)
     exact yy B6
   ·skip;have r0:=gC (yy R5);have g0:=gD (yy R5);have HO:Hid (dO ⟨L,lim,0,A,B,C,D,coast,fr⟩ S=⟨L,lim,0,A,B,C,D,coast,fr+1⟩):=yz (by rw[yy hO3 hneg h4];rfl);go_wp2_with fail;clear q0 s0 f0 r0 g0 j0 j1 j2 j3 j4;rw[yy HO];refine bodyPost_ret (v:=.agg #[.slice a L.length cap,J Y lim,J Y 0,J Y A,J Y B,J Y C,J Y D,J Y coast,J Y (fr+1),J Y 0]) ?_ rfl ⟨⟨a,cap,rfl,?_⟩,?_⟩
    ·refine eE _ _ (w.heap.size+1) _ lim 0 A B C D coast (fr+1) 0 rfl (dM (t:=47) (bH (L:=[.slice none 0 0,J Y 0,J Y 0,J Y 0,J Y 0,J Y 0,J Y 0,J Y 0,J Y 0,J Y 0]) (t:=47) ?_ rfl _ lim 0 A B C D coast (fr+1) 0));exact yy R5
    ·refine aC.low (B:=w.heap.size+1+1) ?_ (by omega);iterate 10 (refine aC.far ?_ (Nat.lt_succ_self (w.heap.size+1)) _ _)
     exact yy C5
    ·iterate 10 (refine aG ?_ (show w.heap.size≤w.heap.size+1 by omega) _ _)
     exact yy B5
  ·have htc:=yy hTN h3;clear cF4;have r0:=gC (yy R4);have g0:=gD (yy R4);have HO:Hid (dO ⟨L,lim,0,A,B,C,D,coast,fr⟩ S=⟨L,lim,0,A,B,C,D,coast,fr+1⟩):=yz (by rw[yy hO3 hneg htc];rfl);go_wp2_with fail;clear q0 s0 f0 r0 g0 j0 j1 j2;rw[yy HO];refine bodyPost_ret (v:=.agg #[.slice a L.length cap,J Y lim,J Y 0,J Y A,J Y B,J Y C,J Y D,J Y coast,J Y (fr+1),J Y 0]) ?_ rfl ⟨⟨a,cap,rfl,?_⟩,?_⟩
   ·refine eE _ _ (w.heap.size+1) _ lim 0 A B C D coast (fr+1) 0 rfl (dM (t:=47) (bH (L:=[.slice none 0 0,J Y 0,J Y 0,J Y 0,J Y 0,J Y 0,J Y 0,J Y 0,J Y 0,J Y 0]) (t:=47) ?_ rfl _ lim 0 A B C D coast (fr+1) 0));exact yy R4
   ·refine aC.low (B:=w.heap.size+1+1) ?_ (by omega);iterate 10 (refine aC.far ?_ (Nat.lt_succ_self (w.heap.size+1)) _ _)
    exact yy C4
   ·iterate 10 (refine aG ?_ (show w.heap.size≤w.heap.size+1 by omega) _ _)
    exact yy B4
 have cM2:=yz (yy cM h1 _ (yy B2));clear cM;go_wp2_with fail;clear q0 s0 f0 p8;refine(yy cM2).mono ?_;rintro e w3 ⟨⟨mv,rfl⟩,hx⟩;have A3:=ap A2 hx;have R3:=ap R2 hx;have C3:=ap C2 hx;have T3:=ap T2 hx;have B3:=ax B2 hx;clear hx cM2 A2 R2 C2 T2 B2;have q0:=fR (yy A3);have s0:=fR (yy T3);have f0:=md (yy T3);by_cases h2:2≤cn
 ·have HO:=yz (yy hO1 h1 h2);have h2':(2:Int)≤(cn:Int):=by omega
  go_wp2_with fail;clear q0 s0 f0;refine(kf lim _ A B C D coast (fr+1) A B C D a L.length cap _).mono ?_;rintro e w4 ⟨rfl,hx⟩;have R4:=ap R3 hx;have C4:=ap C3 hx;have B4:=ax B3 hx;clear hx;have r0:=gC (yy R4);have g0:=gD (yy R4);go_wp2_with fail;clear r0 g0;rw[yy HO];refine bodyPost_ret (v:=.agg #[.slice a L.length cap,J Y lim,J Y 1,J Y A,J Y B,J Y C,J Y D,J Y 0,J Y (fr+1),J Y 0]) ?_ rfl ⟨⟨a,cap,rfl,?_⟩,?_⟩
  ·refine eE _ _ (w.heap.size+1) _ lim 1 A B C D 0 (fr+1) 0 rfl (dM (t:=47) (bH (L:=[.slice none 0 0,J Y 0,J Y 0,J Y 0,J Y 0,J Y 0,J Y 0,J Y 0,J Y 0,J Y 0]) (t:=47) ?_ rfl _ lim 1 A B C D 0 (fr+1) 0));exact yy R4
  ·refine aC.low (B:=w.heap.size+1+1) ?_ (by omega);iterate 10 (refine aC.far ?_ (Nat.lt_succ_self (w.heap.size+1)) _ _)
   exact yy C4
  ·iterate 10 (refine aG ?_ (show w.heap.size≤w.heap.size+1 by omega) _ _)
   exact yy B4
 have hneg:¬(mode≠0∧2≤cn):=fun h=>h2 h.2;have h2':¬(2:Int)≤(cn:Int):=by omega
 go_wp2_with fail;clear q0 s0 f0;refine(yy cI _ (yy B3)).mono ?_;rintro e w4 ⟨hO,hx⟩;obtain⟨x,k,rfl,hv⟩:=tL hO;have Z:=an w4 (.cells #[.slice x (cj L S).length k,J Y (fh L S),J Y (bK L S)] 83);have A4:=aQ A3 hx Z;have R4:=aQ R3 hx Z;have C4:=aQ C3 hx Z;have T4:=aQ T3 hx Z;have B4:=ax (ax B3 hx) Z;have I4:=yz (aq w4 [.slice x (cj L S).length k,J Y (fh L S),J Y (bK L S)] 83);have N4:=yz (hv.kept Z);clear hx hO hv Z;have cF4:Hid (bK L S=0→Calls Tryz.prog 101 #[.slice ad L.length c,.slice br S.length dr,.slice x (cj L S).length k] (w4.alloc (.cells #[.slice x (cj L S).length k,J Y (fh L S),J Y (bK L S)] 83)) fun e w'=>e=.returned (.agg #[J Y t1,J Y t2,J Y t3,J Y t4,J Y tc])∧Below (w4.alloc (.cells #[.slice x (cj L S).length k,J Y (fh L S),J Y (bK L S)] 83)).heap.size (w4.alloc (.cells #[.slice x (cj L S).length k,J Y (fh L S),J Y (bK L S)] 83)) w'):=yz (fun h0=>yy cF h0 _ x k (yy B4) (yy N4));clear N4;generalize (cj L S).length=nI at *;generalize bK L S=kd at *;generalize fh L S=kc at *;obtain⟨j0,j1,j2⟩:=jN (yy I4);have q0:=fR (yy A4);have s0:=fR (yy T4);have f0:=md (yy T4);by_cases h3:kd=0
 ·have cF5:=yz (yy cF4 h3);clear cF4;subst h3;go_wp2_with fail;clear j0 j1 j2 q0 s0 f0;refine(yy cF5).mono ?_;rintro e w5 ⟨rfl,hx⟩;have Z:=an w5 (.cells #[J Y t1,J Y t2,J Y t3,J Y t4,J Y tc] 108);have A5:=aQ A4 hx Z;have R5:=aQ R4 hx Z;have C5:=aQ C4 hx Z;have T5:=aQ T4 hx Z;have B5:=ax (ax B4 hx) Z;have U5:=yz (aq w5 [J Y t1,J Y t2,J Y t3,J Y t4,J Y tc] 108);clear hx Z cF5 A4 R4 C4 T4 B4 I4;obtain⟨j0,j1,j2,j3,j4⟩:=mS (yy U5);have q0:=fR (yy A5);have s0:=fR (yy T5);have f0:=md (yy T5);by_cases h4:tc=0
  ·have HO:=yz (yy hO2 hneg h4);subst h4;go_wp2_with fail;clear j0 j1 j2 j3 j4 q0 s0 f0;refine(kf lim _ A B C D coast (fr+1) t1 t2 t3 t4 a L.length cap _).mono ?_;rintro e w6 ⟨rfl,hx⟩;have R6:=ap R5 hx;have C6:=ap C5 hx;have B6:=ax B5 hx;clear hx;have r0:=gC (yy R6);have g0:=gD (yy R6);go_wp2_with fail;clear r0 g0;rw[yy HO];refine bodyPost_ret (v:=.agg #[.slice a L.length cap,J Y lim,J Y 1,J Y t1,J Y t2,J Y t3,J Y t4,J Y 0,J Y (fr+1),J Y 0]) ?_ rfl ⟨⟨a,cap,rfl,?_⟩,?_⟩
   ·refine eE _ _ (w.heap.size+1) _ lim 1 t1 t2 t3 t4 0 (fr+1) 0 rfl (dM (t:=47) (bH (L:=[.slice none 0 0,J Y 0,J Y 0,J Y 0,J Y 0,J Y 0,J Y 0,J Y 0,J Y 0,J Y 0]) (t:=47) ?_ rfl _ lim 1 t1 t2 t3 t4 0 (fr+1) 0));exact yy R6
   ·refine aC.low (B:=w.heap.size+1+1) ?_ (by omega);iterate 10 (refine aC.far ?_ (Nat.lt_succ_self (w.heap.size+1)) _ _)
    exact yy C6
   ·iterate 10 (refine aG ?_ (show w.heap.size≤w.heap.size+1 by omega) _ _)
    exact yy B6
  ·skip;have r0:=gC (yy R5);have g0:=gD (yy R5);by_cases hlc:lim<coast+1
   ·have HO:Hid (dO ⟨L,lim,mode,A,B,C,D,coast,fr⟩ S=⟨L,lim,0,0,0,0,0,0,fr+1⟩):=yz (by rw[yy hO3 hneg h4];unfold bt;dsimp only;rw[if_neg h1,if_pos hlc];rfl);go_wp2_with fail;clear q0 s0 f0 r0 g0 j0 j1 j2 j3 j4;refine(jc lim 2 A B C D (coast+1) (fr+1) a L.length cap _).mono ?_;rintro e w6 ⟨rfl,hx⟩;have R6:=yz ((((yy R5).other ⟨w2.heap.size,2,none⟩ (J Y 2) (show w.heap.size+1≠w2.heap.size by omega)).other ⟨w2.heap.size,7,none⟩ (J Y (coast+1)) (show w.heap.size+1≠w2.heap.size by omega)).kept hx);have T6:=yz ((((yy T5).set 2 (J Y 2)).set 7 (J Y (coast+1))).kept hx);have C6:=yz ((((yy C5).off (fun y e=>Nat.ne_of_lt (hcb y e)) 2 (J Y 2)).off (fun y e=>Nat.ne_of_lt (hcb y e)) 7 (J Y (coast+1))).kept hx);have B6:=yz (ak (aG (aG (yy B5) (show w.heap.size≤w2.heap.size by omega) 2 (J Y 2)) (show w.heap.size≤w2.heap.size by omega) 7 (J Y (coast+1))) hx);clear hx;have s0:=fR (yy T6);have f0:=md (yy T6);have r0:=gC (yy R6);have g0:=gD (yy R6);go_wp2_with fail;clear s0 f0 r0 g0;rw[yy HO];refine bodyPost_ret (v:=.agg #[.slice a L.length cap,J Y lim,J Y 0,J Y 0,J Y 0,J Y 0,J Y 0,J Y 0,J Y (fr+1),J Y 0]) ?_ rfl ⟨⟨a,cap,rfl,?_⟩,?_⟩
    ·refine eE _ _ (w.heap.size+1) _ lim 0 0 0 0 0 0 (fr+1) 0 rfl (dM (t:=47) (bH (L:=[.slice none 0 0,J Y 0,J Y 0,J Y 0,J Y 0,J Y 0,J Y 0,J Y 0,J Y 0,J Y 0]) (t:=47) ?_ rfl _ lim 0 0 0 0 0 0 (fr+1) 0));iterate 9 (refine Blk.other ?_ _ _ (show w.heap.size+1≠w2.heap.size by omega))
     exact yy R6
    ·refine aC.low (B:=w.heap.size+1+1) ?_ (by omega);iterate 10 (refine aC.far ?_ (Nat.lt_succ_self (w.heap.size+1)) _ _)
     iterate 9 (refine aC.off ?_ (fun y e=>Nat.ne_of_lt (hcb y e)) _ _)
     exact yy C6
    ·iterate 10 (refine aG ?_ (show w.heap.size≤w.heap.size+1 by omega) _ _)
     iterate 9 (refine aG ?_ (show w.heap.size≤w2.heap.size by omega) _ _)
     exact yy B6
   ·have HO:Hid (dO ⟨L,lim,mode,A,B,C,D,coast,fr⟩ S=⟨L,lim,2,A,B,C,D,coast+1,fr+1⟩):=yz (by rw[yy hO3 hneg h4];unfold bt;dsimp only;rw[if_neg h1,if_neg hlc]);go_wp2_with fail;clear q0 s0 f0 r0 g0 j0 j1 j2 j3 j4;rw[yy HO];refine bodyPost_ret (v:=.agg #[.slice a L.length cap,J Y lim,J Y 2,J Y A,J Y B,J Y C,J Y D,J Y (coast+1),J Y (fr+1),J Y 0]) ?_ rfl ⟨⟨a,cap,rfl,?_⟩,?_⟩
    ·refine eE _ _ (w.heap.size+1) _ lim 2 A B C D (coast+1) (fr+1) 0 rfl (dM (t:=47) (bH (L:=[.slice none 0 0,J Y 0,J Y 0,J Y 0,J Y 0,J Y 0,J Y 0,J Y 0,J Y 0,J Y 0]) (t:=47) ?_ rfl _ lim 2 A B C D (coast+1) (fr+1) 0));iterate 2 (refine Blk.other ?_ _ _ (show w.heap.size+1≠w2.heap.size by omega))
     exact yy R5
    ·refine aC.low (B:=w.heap.size+1+1) ?_ (by omega);iterate 10 (refine aC.far ?_ (Nat.lt_succ_self (w.heap.size+1)) _ _)
     iterate 2 (refine aC.off ?_ (fun y e=>Nat.ne_of_lt (hcb y e)) _ _)
     exact yy C5
    ·iterate 10 (refine aG ?_ (show w.heap.size≤w.heap.size+1 by omega) _ _)
     iterate 2 (refine aG ?_ (show w.heap.size≤w2.heap.size by omega) _ _)
     exact yy B5
 ·have htc:=yy hTN h3;clear cF4;have r0:=gC (yy R4);have g0:=gD (yy R4);by_cases hlc:lim<coast+1
  ·have HO:Hid (dO ⟨L,lim,mode,A,B,C,D,coast,fr⟩ S=⟨L,lim,0,0,0,0,0,0,fr+1⟩):=yz (by rw[yy hO3 hneg htc];unfold bt;dsimp only;rw[if_neg h1,if_pos hlc];rfl);go_wp2_with fail;clear q0 s0 f0 r0 g0 j0 j1 j2;refine(jc lim 2 A B C D (coast+1) (fr+1) a L.length cap _).mono ?_;rintro e w6 ⟨rfl,hx⟩;have R6:=yz ((((yy R4).other ⟨w2.heap.size,2,none⟩ (J Y 2) (show w.heap.size+1≠w2.heap.size by omega)).other ⟨w2.heap.size,7,none⟩ (J Y (coast+1)) (show w.heap.size+1≠w2.heap.size by omega)).kept hx);have T6:=yz ((((yy T4).set 2 (J Y 2)).set 7 (J Y (coast+1))).kept hx);have C6:=yz ((((yy C4).off (fun y e=>Nat.ne_of_lt (hcb y e)) 2 (J Y 2)).off (fun y e=>Nat.ne_of_lt (hcb y e)) 7 (J Y (coast+1))).kept hx);have B6:=yz (ak (aG (aG (yy B4) (show w.heap.size≤w2.heap.size by omega) 2 (J Y 2)) (show w.heap.size≤w2.heap.size by omega) 7 (J Y (coast+1))) hx);clear hx;have s0:=fR (yy T6);have f0:=md (yy T6);have r0:=gC (yy R6);have g0:=gD (yy R6);go_wp2_with fail;clear s0 f0 r0 g0;rw[yy HO];refine bodyPost_ret (v:=.agg #[.slice a L.length cap,J Y lim,J Y 0,J Y 0,J Y 0,J Y 0,J Y 0,J Y 0,J Y (fr+1),J Y 0]) ?_ rfl ⟨⟨a,cap,rfl,?_⟩,?_⟩
   ·refine eE _ _ (w.heap.size+1) _ lim 0 0 0 0 0 0 (fr+1) 0 rfl (dM (t:=47) (bH (L:=[.slice none 0 0,J Y 0,J Y 0,J Y 0,J Y 0,J Y 0,J Y 0,J Y 0,J Y 0,J Y 0]) (t:=47) ?_ rfl _ lim 0 0 0 0 0 0 (fr+1) 0));iterate 9 (refine Blk.other ?_ _ _ (show w.heap.size+1≠w2.heap.size by omega))
    exact yy R6
   ·refine aC.low (B:=w.heap.size+1+1) ?_ (by omega);iterate 10 (refine aC.far ?_ (Nat.lt_succ_self (w.heap.size+1)) _ _)
    iterate 9 (refine aC.off ?_ (fun y e=>Nat.ne_of_lt (hcb y e)) _ _)
    exact yy C6
   ·iterate 10 (refine aG ?_ (show w.heap.size≤w.heap.size+1 by omega) _ _)
    iterate 9 (refine aG ?_ (show w.heap.size≤w2.heap.size by omega) _ _)
    exact yy B6
  ·have HO:Hid (dO ⟨L,lim,mode,A,B,C,D,coast,fr⟩ S=⟨L,lim,2,A,B,C,D,coast+1,fr+1⟩):=yz (by rw[yy hO3 hneg htc];unfold bt;dsimp only;rw[if_neg h1,if_neg hlc]);go_wp2_with fail;clear q0 s0 f0 r0 g0 j0 j1 j2;rw[yy HO];refine bodyPost_ret (v:=.agg #[.slice a L.length cap,J Y lim,J Y 2,J Y A,J Y B,J Y C,J Y D,J Y (coast+1),J Y (fr+1),J Y 0]) ?_ rfl ⟨⟨a,cap,rfl,?_⟩,?_⟩
   ·refine eE _ _ (w.heap.size+1) _ lim 2 A B C D (coast+1) (fr+1) 0 rfl (dM (t:=47) (bH (L:=[.slice none 0 0,J Y 0,J Y 0,J Y 0,J Y 0,J Y 0,J Y 0,J Y 0,J Y 0,J Y 0]) (t:=47) ?_ rfl _ lim 2 A B C D (coast+1) (fr+1) 0));iterate 2 (refine Blk.other ?_ _ _ (show w.heap.size+1≠w2.heap.size by omega))
    exact yy R4
   ·refine aC.low (B:=w.heap.size+1+1) ?_ (by omega);iterate 10 (refine aC.far ?_ (Nat.lt_succ_self (w.heap.size+1)) _ _)
    iterate 2 (refine aC.off ?_ (fun y e=>Nat.ne_of_lt (hcb y e)) _ _)
    exact yy C4
   ·iterate 10 (refine aG ?_ (show w.heap.size≤w.heap.size+1 by omega) _ _)
    iterate 2 (refine aG ?_ (show w.heap.size≤w2.heap.size by omega) _ _)
    exact yy B4
end
end Go.Proofs.YtdchjcadhlkpfaaGreatDoor
