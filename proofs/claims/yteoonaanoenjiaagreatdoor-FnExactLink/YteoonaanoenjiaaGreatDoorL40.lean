/- Several texts in one: SpE, ModD, ModE, ModG, AppO, ModH, ModJ, ModI, ModF. -/
import Derived.Test.YteoonaanoenjiaaGreatDoorL39
namespace Go.Proofs.YteoonaanoenjiaaGreatDoor
set_option linter.unusedVariables false
set_option linter.unusedSimpArgs false
set_option maxRecDepth 100000
set_option maxHeartbeats 8000000
section
open Go.Value renaming int → J
open Go.IntKind renaming i64 → Y
open Go.RowKit Go.Sort
theorem qk(wd ht:Int)(s:ByteArray)(lv fo:Int)(w:World)(hs:s.size≤maxLen):
  Calls Tryz.prog 115 #[.agg #[J Y wd,J Y ht,.string s],J Y lv,J Y fo] w fun e w'=>(∃v,e=.returned v∧w'.ownsRow w.heap.size 111 3 v (be wd ht s lv fo).length (bJ (be wd ht s lv fo)))∧Below w.heap.size w w':=by
 obtain⟨i0,hinf,hz0,hz1,hz2⟩:=info_parts nE;have hm8:400≤maxLen:=by decide +kernel
 have cB:=yz (fun W=>qg wd ht s lv W hs);have hml:=oS wd ht s lv;have HR:Hid (be wd ht s lv fo=if mJ fo=true then dM wd ht s fo (kR wd ht s lv) else []):=yz rfl;generalize mw wd ht s lv=code at *;generalize kR wd ht s lv=S at *;have A0:=ap w [J Y wd,J Y ht,.string s] 43;have B0:=ak w (.cells #[J Y wd,J Y ht,.string s] 43);go_enter Tryz.func115,Tryz.ntmps115;go_wp2_with fail;generalize w.alloc (.cells #[J Y wd,J Y ht,.string s] 43)=W0 at A0 B0 ⊢;refine(pH fo _).mono ?_;rintro e W00 ⟨rfl,rfl⟩;cases hf:mJ fo
 ·rw[hf]at HR;have HR':Hid (be wd ht s lv fo=[]):=HR;go_wp2_with fail;go_ret;rw[yx HR'];exact⟨⟨_,rfl,World.ownsRow_nil _ _ _ _⟩,B0⟩
 rw[hf,if_pos rfl]at HR;clear hf;obtain⟨f0,f1,f2⟩:=eP (A0);go_wp2_with fail;refine(yx cB _).mono ?_;rintro e W1 ⟨⟨v1,rfl,ho⟩,hx⟩;obtain⟨a1,c1,rfl⟩:=bM ho;have hfl:w.heap.size<W00.heap.size:=A0.lt;have HST:Hid (StS w W1 w.heap.size W1.heap.size wd ht s a1 S.length c1 S):=yz ⟨A0.kept hx,eT ho (by omega),fun z e=>(ho.lt z e).2,by have:=hx.size;omega,by have:=hx.size;omega,Nat.le_refl _,aj B0 hx⟩;have HO:Hid (W1.ownsRow W1.heap.size 111 3 (.slice none 0 0) (dM wd ht s fo (S.take 0)).length (bJ (dM wd ht s fo (S.take 0)))):=yz (World.ownsRow_nil _ _ _ _);clear ho hx A0 B0 cB hfl f0 f1 f2;have hfd:∀W:World,(Instr.field 160 (.agg #[.slice a1 S.length c1,J Y code]) 0).run Tryz.prog W=.ok (.slice a1 S.length c1) W:=fun W=>by kernel_rfl
 go_wp2_with fail;clear hfd;generalize W1.heap.size=lo at *;go_loopw [7,19] (fun v kk wr=>∃k:Nat,k≤S.length∧kk=J Y k∧Hid (wr.ownsRow lo 111 3 v (dM wd ht s fo (S.take k)).length (bJ (dM wd ht s fo (S.take k))))∧Hid (StS w wr w.heap.size lo wd ht s a1 S.length c1 S)) (fun _ kk _=>S.length-(intOf kk).toNat)
 case atStart=>exact⟨0,by omega,rfl,HO,HST⟩
 case round=>
  clear HO HST;obtain⟨k,hk,rfl,HO,HST⟩:=hrel;by_cases hkn:k<S.length
  ·have hkn2:(k:Int)<(S.length:Int):=by omega
   obtain⟨b,hb⟩:∃b,S[k]? = some b:=⟨S[k],List.getElem?_eq_getElem hkn⟩
   have HSN:=yz (vg wd ht s fo S k b hb);have hpl:(dM wd ht s fo (S.take k)).length≤8:=by have:=sw wd ht s fo (S.take k);have:=List.length_take_le k S;omega
   obtain⟨g,ha,hg1,hg2,c0,c1',c2,c3,c4⟩:=rf (yx HST).bl rfl k b hb;subst ha;clear hb;have HSV:=yz (IU wd ht s fo b);have HKE:Hid (pJ wd ht s fo b=(jK b.ar b.ed 1 20&&cy (spT wd ht s fo b).1 (spT wd ht s fo b).2.1 (spT wd ht s fo b).2.2)):=yz rfl;generalize spT wd ht s fo b=q at *;generalize pJ wd ht s fo b=kp at *;obtain⟨q1,q2,q3⟩:=q;obtain⟨ar,su,sx,sy,ed⟩:=b;have HSV':Hid (spV su sx sy wd ht s fo=.agg #[J Y q1,J Y q2,J Y q3]):=HSV;have HKE':Hid (kp=(jK ar ed 1 20&&cy q1 q2 q3)):=HKE;clear HSV HKE;simp only at c0 c1' c2 c3 c4;have Z:=ak wr (.cells #[J Y ar,J Y su,J Y sx,J Y sy,.bool ed] 163);have HST2:=an HST Z;have HO2:=yz (aW (yx HO) Z);have D2:=ap wr [J Y ar,J Y su,J Y sx,J Y sy,.bool ed] 163;clear Z HST HO;obtain⟨d0,d1,d2,d3,d4⟩:=gL (D2);go_wp2_with fail;clear c0 c1' c2 c3 c4;refine(vK ar su sx sy ed 1 20 _).mono ?_;rintro e W3 ⟨rfl,hx⟩;have HST3:=an HST2 hx;have HO3:=yz (aW (yx HO2) hx);have D3:=D2.kept hx;clear hx HST2 HO2 D2 d0 d1 d2 d3 d4;cases hgd:jK ar ed 1 20
   ·rw[hgd]at HKE';have HKE:Hid (kp=false):=HKE';rw[yx HKE,if_neg (by simp),List.append_nil]at HSN;have HO4:Hid (W3.ownsRow lo 111 3 u7 (dM wd ht s fo (S.take (k+1))).length (bJ (dM wd ht s fo (S.take (k+1))))):=yz (by rw[yx HSN];exact yx HO3);go_wp2_with fail;go_roundw
    case rel=>exact⟨k+1,by omega,by go_num,HO4,HST3⟩
    case measure=>simp[intOf]<;>omega
   rw[hgd,Bool.true_and]at HKE';obtain⟨d0,d1,d2,d3,d4⟩:=gL (D3);have f0:=(yx HST3).fr.cell 0 _ rfl;have f1:=(yx HST3).fr.cell 1 _ rfl;have f2:=(yx HST3).fr.cell 2 _ rfl;go_wp2_with fail;refine(AH ar su sx sy ed wd ht s fo _).mono ?_;rintro e W4 ⟨rfl,hx⟩;rw[yx HSV'];clear HSV';have Z:=ak W4 (.cells #[J Y q1,J Y q2,J Y q3] 111);have HST5:=aI HST3 hx Z;have HO5:=yz (aW (aW (yx HO3) hx) Z);have E5:=ap W4 [J Y q1,J Y q2,J Y q3] 111;clear hx Z HST3 HO3 D3 d0 d1 d2 d3 d4 f0 f1 f2;obtain⟨e0,e1,e2⟩:=eP (E5);go_wp2_with fail;generalize W4.alloc (.cells #[J Y q1,J Y q2,J Y q3] 111)=W5 at HST5 HO5 E5 e0 e1 e2 ⊢;generalize W4.heap.size=vb at *;clear e0 e1 e2;refine(iR q1 q2 q3 _).mono ?_;rintro e W6 ⟨rfl,hx⟩;have HST6:=an HST5 hx;have HO6:=yz (aW (yx HO5) hx);have E6:=E5.kept hx;clear hx HST5 HO5 E5;cases hwd:cy q1 q2 q3
   ·rw[hwd]at HKE';rw[yx HKE',if_neg (by simp),List.append_nil]at HSN;have HO7:Hid (W6.ownsRow lo 111 3 u7 (dM wd ht s fo (S.take (k+1))).length (bJ (dM wd ht s fo (S.take (k+1))))):=yz (by rw[yx HSN];exact yx HO6);go_wp2_with fail;go_roundw
    case rel=>exact⟨k+1,by omega,by go_num,HO7,HST6⟩
    case measure=>simp[intOf]<;>omega
   ·rw[hwd]at HKE';rw[yx HKE',if_pos rfl]at HSN;obtain⟨e0,e1,e2⟩:=eP (E6);have Z1:=ak W6 (.cells #[J Y q1,J Y q2,J Y q3] 111);have hown:=aW (yx HO6) Z1;have ST7:=(yx HST6).kept Z1;have hll:=(yx HST6).ll;clear Z1 HO6 HST6;generalize dM wd ht s fo (S.take k)=Pk at *;go_wp2_with (at_builtin;refine wpList_append_own _ rfl _ _ 42 rfl lo 111 i0 (.agg #[J Y 0,J Y 0,J Y 0]) 3 24 Tryz.underlying42 hinf hz0 hz1 hz2 rfl (by decide) _ _ _ rfl hown ⟨W6.heap.size,0,none⟩ 1 1 (bJ [(q1,q2,q3)]) rfl rfl ?d2 (fun u hu=>kj hu) ?d3 ?d4 ?d5 ?_)
    case d2=>first | exact fun j u h=>h | exact fk _ _ _
    case d3=>omega
    case d4=>omega
    case d5=>first | omega | (simp;omega)
    intro v7 V7 hown7 hgrow7 _;have HST8:=yz (ST7.byRow hgrow7 (fun q e=>(hown.lt q e).1));have HO8:Hid (V7.ownsRow lo 111 3 v7 (dM wd ht s fo (S.take (k+1))).length (bJ (dM wd ht s fo (S.take (k+1))))):=yz (by rw[yx HSN,lN,List.length_append];exact hown7);clear hown7 hgrow7 hown ST7 e0 e1 e2 E6;go_wp2_with fail;go_roundw
    case rel=>exact⟨k+1,by omega,by go_num,HO8,HST8⟩
    case measure=>simp[intOf]<;>omega
  ·have hke:k=S.length:=by omega
   have HO3:Hid (wr.ownsRow lo 111 3 u7 (be wd ht s lv fo).length (bJ (be wd ht s lv fo))):=yz (by
    have h:=yx HO;rw[hke,List.take_length]at h;rw[yx HR]
    exact h)
   go_wp2_with fail;go_ret;exact⟨⟨_,rfl,eT (yx HO3) (yx HST).lw⟩,(yx HST).bel⟩
end
section
open Go.Value renaming int → J
open Go.IntKind renaming i64 → Z
open Go.RowKit Go.Sort
def fM(w:World)(b:Nat):Prop:=∀i,w.frozen? ⟨b,i,none⟩=false
variable {lim0 mode0:Int} {b:Nat} {u:Value} {w:World}
theorem fM.kept{w':World}(h:fM w b)(hb:b<w.heap.size)(hB:Below w.heap.size w w'):fM w' b:=fun i=>(hB.frozen (p:=⟨b,i,none⟩) hb).trans (h i)
theorem dS(w:World)(cs:Array Value)(t:TypeId):fM (w.alloc (.cells cs t)) w.heap.size:=fun i=>by simp
theorem fM.set(h:fM w b)(p:Addr)(v:Value):fM (w.setCell p v) b:=fun i=>by rw[World.frozen?_setCell];exact h i
theorem ik.far{n k:Nat}{L:List St}(h:ik w b n L k){b':Nat}(hne:b≠b')(o:Nat)(x:Value):ik (w.setCell ⟨b',o,none⟩ x) b n L k:=by
 obtain⟨cur,hc,r⟩:=h;exact⟨cur,by rw[Below.heap_setCell w ⟨b',o,none⟩ x b hne];exact hc,r⟩
theorem dk.far{v:Value}{lim mode A B C D coast fr:Int}(h:dk w b v lim mode A B C D coast fr){b':Nat}(hne:b≠b')(o:Nat)(x:Value):dk (w.setCell ⟨b',o,none⟩ x) b v lim mode A B C D coast fr:=by
 obtain⟨h0,h1,h2,h3,h4,h5,h6,h7,h8⟩:=h;refine⟨?_,?_,?_,?_,?_,?_,?_,?_,?_⟩<;>(rw[World.cell?_setCell_far _ _ _ _ (Ne.symm hne)];assumption)
theorem Eh{A B C D coast fr:Int}(h:dk w b u lim0 mode0 A B C D coast fr)(v:Value)(lim mode:Int):dk (((w.setCell ⟨b,0,none⟩ v).setCell ⟨b,1,none⟩ (J Z lim)).setCell ⟨b,2,none⟩ (J Z mode)) b v lim mode A B C D coast fr:=by
 obtain⟨h0,h1,h2,h3,h4,h5,h6,h7,h8⟩:=h;refine⟨?_,?_,?_,?_,?_,?_,?_,?_,?_⟩<;>simp[go_sem,h0,h1,h2,h3,h4,h5,h6,h7,h8]
theorem dU{A0 B0 C0 D0 coast0 fr0:Int}(h:dk w b u lim0 mode0 A0 B0 C0 D0 coast0 fr0)(v:Value)(lim mode A B C D coast fr:Int):dk (((((((((w.setCell ⟨b,0,none⟩ v).setCell ⟨b,1,none⟩ (J Z lim)).setCell ⟨b,2,none⟩ (J Z mode)).setCell ⟨b,3,none⟩ (J Z A)).setCell ⟨b,4,none⟩ (J Z B)).setCell ⟨b,5,none⟩ (J Z C)).setCell ⟨b,6,none⟩ (J Z D)).setCell ⟨b,7,none⟩ (J Z coast)).setCell ⟨b,8,none⟩ (J Z fr)) b v lim mode A B C D coast fr:=by
 obtain⟨h0,h1,h2,h3,h4,h5,h6,h7,h8⟩:=h;refine⟨?_,?_,?_,?_,?_,?_,?_,?_,?_⟩<;>simp[go_sem,h0,h1,h2,h3,h4,h5,h6,h7,h8]
theorem tU(T:Array Value)(X:World)(b:Nat)(v:Value)(lim mode A B C D coast fr:Int)(hT:T.getD 2 undef=.pointer (some ⟨b,0,none⟩))(h:dk X b v lim mode A B C D coast fr):(results Tryz.f8 T).run Tryz.prog X=.ok (.agg #[v,J Z lim,J Z mode,J Z A,J Z B,J Z C,J Z D,J Z coast,J Z fr]) X:=by
 obtain⟨h0,h1,h2,h3,h4,h5,h6,h7,h8⟩:=h;simp only[Array.getD_eq_getD_getElem?]at hT;simp[results,Tryz.results8,go_sem,hT,h0,h1,h2,h3,h4,h5,h6,h7,h8]
theorem aB{B:Nat}{w1:World}(h:Below B w w1){b:Nat}(hb:B≤b)(o:Nat)(v:Value):Below B w (w1.setCell ⟨b,o,none⟩ v):=h.setCell hb v
theorem ug(L:List St)(lim mode A B C D coast fr:Int)(a:Option Addr)(c:Nat)(w:World)(hn:L.length≤1048576)(hS:aH w a L L.length):
  Calls Tryz.prog 8 #[.agg #[.slice a L.length c,J Z lim,J Z mode,J Z A,J Z B,J Z C,J Z D,J Z coast,J Z fr]] w fun e w'=>∃b,e=.returned (.agg #[.slice (some ⟨b,0,none⟩) L.length L.length,J Z lim,J Z mode,J Z A,J Z B,J Z C,J Z D,J Z coast,J Z fr])∧ik w' b L.length L L.length∧w.heap.size≤b∧Below w.heap.size w w':=by
 have B0:=bq w (.cells #[.slice a L.length c,J Z lim,J Z mode,J Z A,J Z B,J Z C,J Z D,J Z coast,J Z fr] 26) (.cells #[.slice none 0 0,J Z 0,J Z 0,J Z 0,J Z 0,J Z 0,J Z 0,J Z 0,J Z 0] 37) (.cells #[.slice none 0 0,J Z 0,J Z 0,J Z 0,J Z 0,J Z 0,J Z 0,J Z 0,J Z 0] 37);have S0:=bL w (.slice a L.length c) lim mode A B C D coast fr 26;have S0':=(S0.kept (ak _ (.cells #[.slice none 0 0,J Z 0,J Z 0,J Z 0,J Z 0,J Z 0,J Z 0,J Z 0,J Z 0] 37))).kept (ak _ (.cells #[.slice none 0 0,J Z 0,J Z 0,J Z 0,J Z 0,J Z 0,J Z 0,J Z 0,J Z 0] 37));have R0:=(by simpa using bL (w.alloc (.cells #[.slice a L.length c,J Z lim,J Z mode,J Z A,J Z B,J Z C,J Z D,J Z coast,J Z fr] 26)) (.slice none 0 0) 0 0 0 0 0 0 0 0 37:dk ((w.alloc (.cells #[.slice a L.length c,J Z lim,J Z mode,J Z A,J Z B,J Z C,J Z D,J Z coast,J Z fr] 26)).alloc (.cells #[.slice none 0 0,J Z 0,J Z 0,J Z 0,J Z 0,J Z 0,J Z 0,J Z 0,J Z 0] 37)) (w.heap.size+1) (.slice none 0 0) 0 0 0 0 0 0 0 0)
 have R0':=R0.kept (ak _ (.cells #[.slice none 0 0,J Z 0,J Z 0,J Z 0,J Z 0,J Z 0,J Z 0,J Z 0,J Z 0] 37));have U0:=(by simpa using bL ((w.alloc (.cells #[.slice a L.length c,J Z lim,J Z mode,J Z A,J Z B,J Z C,J Z D,J Z coast,J Z fr] 26)).alloc (.cells #[.slice none 0 0,J Z 0,J Z 0,J Z 0,J Z 0,J Z 0,J Z 0,J Z 0,J Z 0] 37)) (.slice none 0 0) 0 0 0 0 0 0 0 0 37:dk (((w.alloc (.cells #[.slice a L.length c,J Z lim,J Z mode,J Z A,J Z B,J Z C,J Z D,J Z coast,J Z fr] 26)).alloc (.cells #[.slice none 0 0,J Z 0,J Z 0,J Z 0,J Z 0,J Z 0,J Z 0,J Z 0,J Z 0] 37)).alloc (.cells #[.slice none 0 0,J Z 0,J Z 0,J Z 0,J Z 0,J Z 0,J Z 0,J Z 0,J Z 0] 37)) (w.heap.size+1+1) (.slice none 0 0) 0 0 0 0 0 0 0 0)
 have F1:=(by simpa using dS (w.alloc (.cells #[.slice a L.length c,J Z lim,J Z mode,J Z A,J Z B,J Z C,J Z D,J Z coast,J Z fr] 26)) #[.slice none 0 0,J Z 0,J Z 0,J Z 0,J Z 0,J Z 0,J Z 0,J Z 0,J Z 0] 37:fM ((w.alloc (.cells #[.slice a L.length c,J Z lim,J Z mode,J Z A,J Z B,J Z C,J Z D,J Z coast,J Z fr] 26)).alloc (.cells #[.slice none 0 0,J Z 0,J Z 0,J Z 0,J Z 0,J Z 0,J Z 0,J Z 0,J Z 0] 37)) (w.heap.size+1))
 have F1':=F1.kept (by simp) (ak _ (.cells #[.slice none 0 0,J Z 0,J Z 0,J Z 0,J Z 0,J Z 0,J Z 0,J Z 0,J Z 0] 37));have F2:=(by simpa using dS ((w.alloc (.cells #[.slice a L.length c,J Z lim,J Z mode,J Z A,J Z B,J Z C,J Z D,J Z coast,J Z fr] 26)).alloc (.cells #[.slice none 0 0,J Z 0,J Z 0,J Z 0,J Z 0,J Z 0,J Z 0,J Z 0,J Z 0] 37)) #[.slice none 0 0,J Z 0,J Z 0,J Z 0,J Z 0,J Z 0,J Z 0,J Z 0,J Z 0] 37:fM (((w.alloc (.cells #[.slice a L.length c,J Z lim,J Z mode,J Z A,J Z B,J Z C,J Z D,J Z coast,J Z fr] 26)).alloc (.cells #[.slice none 0 0,J Z 0,J Z 0,J Z 0,J Z 0,J Z 0,J Z 0,J Z 0,J Z 0] 37)).alloc (.cells #[.slice none 0 0,J Z 0,J Z 0,J Z 0,J Z 0,J Z 0,J Z 0,J Z 0,J Z 0] 37)) (w.heap.size+1+1))
 have cT:=yz (zu L a c _ hn (hS.kept B0));have HB:=yz B0;have HS:=yz S0';have HR:=yz R0';have HU:=yz U0;have HF:=yz F1';have HG:=yz F2;clear B0 S0 S0' R0 R0' U0 F1 F1' F2 hS;go_enter Tryz.func8,Tryz.ntmps8;go_wp2_with fail;refine(yx cT).mono ?_;rintro e w1 ⟨rfl,ho,hx⟩;have O1:=yz ho;have S1:=an HS hx;have R1:=an HR hx;have U1:=an HU hx;have F1:=yz ((yx HF).kept (yx HR).lt hx);have G1:=yz ((yx HG).kept (yx HU).lt hx);have B1:=aA HB hx;have hb:(((w.alloc (.cells #[.slice a L.length c,J Z lim,J Z mode,J Z A,J Z B,J Z C,J Z D,J Z coast,J Z fr] 26)).alloc (.cells #[.slice none 0 0,J Z 0,J Z 0,J Z 0,J Z 0,J Z 0,J Z 0,J Z 0,J Z 0] 37)).alloc (.cells #[.slice none 0 0,J Z 0,J Z 0,J Z 0,J Z 0,J Z 0,J Z 0,J Z 0,J Z 0] 37)).heap.size=w.heap.size+1+1+1:=by simp
 rw[hb]at O1 ⊢;clear hb ho hx HB HS HR HU HF HG cT;obtain⟨s0,s1,s2,s3,s4,s5,s6,s7,s8⟩:=yx S1;obtain⟨u0,u1,u2,u3,u4,u5,u6,u7,u8⟩:=yx U1;have g0:=yx G1 0;have g1:=yx G1 1;have g2:=yx G1 2;go_wp2_with fail;clear s0 s1 s2 s3 s4 s5 s6 s7 s8 u0 u1 u2 u3 u4 u5 u6 u7 u8 g0 g1 g2;refine(zv A B C D _).mono ?_;rintro e w2 ⟨rfl,hx⟩;have Y1:=aB (aB (aB (yx B1) (b:=w.heap.size+1+1) (by omega) 0 (.slice (some ⟨w.heap.size+1+1+1,0,none⟩) L.length L.length)) (b:=w.heap.size+1+1) (by omega) 1 (J Z lim)) (b:=w.heap.size+1+1) (by omega) 2 (J Z mode);have S2:=((((yx S1).far (b':=w.heap.size+1+1) (by omega) 0 (.slice (some ⟨w.heap.size+1+1+1,0,none⟩) L.length L.length)).far (b':=w.heap.size+1+1) (by omega) 1 (J Z lim)).far (b':=w.heap.size+1+1) (by omega) 2 (J Z mode)).kept hx;have R2:=((((yx R1).far (b':=w.heap.size+1+1) (by omega) 0 (.slice (some ⟨w.heap.size+1+1+1,0,none⟩) L.length L.length)).far (b':=w.heap.size+1+1) (by omega) 1 (J Z lim)).far (b':=w.heap.size+1+1) (by omega) 2 (J Z mode))
 have U2:=Eh (yx U1) (.slice (some ⟨w.heap.size+1+1+1,0,none⟩) L.length L.length) lim mode;have G2:=yz (((((yx G1).set ⟨w.heap.size+1+1,0,none⟩ (.slice (some ⟨w.heap.size+1+1+1,0,none⟩) L.length L.length)).set ⟨w.heap.size+1+1,1,none⟩ (J Z lim)).set ⟨w.heap.size+1+1,2,none⟩ (J Z mode)).kept U2.lt hx);have F2:=yz (((((yx F1).set ⟨w.heap.size+1+1,0,none⟩ (.slice (some ⟨w.heap.size+1+1+1,0,none⟩) L.length L.length)).set ⟨w.heap.size+1+1,1,none⟩ (J Z lim)).set ⟨w.heap.size+1+1,2,none⟩ (J Z mode)).kept R2.lt hx);have O2:=yz (((((yx O1).far (b':=w.heap.size+1+1) (by omega) 0 (.slice (some ⟨w.heap.size+1+1+1,0,none⟩) L.length L.length)).far (b':=w.heap.size+1+1) (by omega) 1 (J Z lim)).far (b':=w.heap.size+1+1) (by omega) 2 (J Z mode)).kept hx);have B2:=yz (aj Y1 hx);obtain⟨s0,s1,s2,s3,s4,s5,s6,s7,s8⟩:=S2;obtain⟨u0,u1,u2,u3,u4,u5,u6,u7,u8⟩:=U2.kept hx;have R3:=yz (R2.kept hx);obtain⟨r0,r1,r2,r3,r4,r5,r6,r7,r8⟩:=yx R3;have g3:=yx G2 3;have g4:=yx G2 4;have g5:=yx G2 5;have g6:=yx G2 6;have g7:=yx G2 7;have g8:=yx G2 8;have f0:=yx F2 0;have f1:=yx F2 1;have f2:=yx F2 2;have f3:=yx F2 3;have f4:=yx F2 4;have f5:=yx F2 5;have f6:=yx F2 6;have f7:=yx F2 7;have f8:=yx F2 8;clear hx Y1 U2 R2 S1 R1 U1 F1 G1 B1 O1 G2 F2;go_wp2_with fail;refine bodyPost_ret (v:=.agg #[.slice (some ⟨w.heap.size+1+1+1,0,none⟩) L.length L.length,J Z lim,J Z mode,J Z A,J Z B,J Z C,J Z D,J Z coast,J Z fr]) ?_ rfl ?_
 ·refine tU _ _ (w.heap.size+1) _ lim mode A B C D coast fr rfl ?_;refine dU (lim0:=0) (mode0:=0) (A0:=0) (B0:=0) (C0:=0) (D0:=0) (coast0:=0) (fr0:=0) (u:=.slice none 0 0) ?_ _ lim mode A B C D coast fr;iterate 6 (refine dk.far ?_ (show w.heap.size+1≠w.heap.size+1+1 by omega) _ _)
  exact yx R3
 ·refine⟨w.heap.size+1+1+1,rfl,?_,by omega,?_⟩
  ·iterate 9 (refine ik.far ?_ (show w.heap.size+1+1+1≠w.heap.size+1 by omega) _ _)
   iterate 6 (refine ik.far ?_ (show w.heap.size+1+1+1≠w.heap.size+1+1 by omega) _ _)
   exact yx O2
  ·iterate 15 (refine aB ?_ (by omega) _ _)
   exact yx B2
def TkO(w:World)(b:Nat)(v:Value)(lim mode A B C D coast fr code:Int):Prop:=dk w b v lim mode A B C D coast fr∧w.cell? ⟨b,9,none⟩=some (J Z code)
variable {code:Int} {b:Nat} {v:Value} {w w':World}
theorem TkO.kept{lim mode A B C D coast fr:Int}(h:TkO w b v lim mode A B C D coast fr code)(hB:Below w.heap.size w w'):TkO w' b v lim mode A B C D coast fr code:=⟨h.1.kept hB,mu h.2 hB⟩
theorem qS(w:World)(v:Value)(lim mode A B C D coast fr code:Int)(t:TypeId):TkO (w.alloc (.cells #[v,J Z lim,J Z mode,J Z A,J Z B,J Z C,J Z D,J Z coast,J Z fr,J Z code] t)) w.heap.size v lim mode A B C D coast fr code:=by
 refine⟨⟨?_,?_,?_,?_,?_,?_,?_,?_,?_⟩,?_⟩<;>simp
theorem mt{a:Addr}{row:Option Nat}(h:w.cell? a=some v)(hg:w.grownBy w' row)(hne:some a.block≠row):w'.cell? a=some v:=(World.cell?_of_block (hg.block a.block (World.block_lt_of_cell? w a h) hne)).trans h
theorem dk.grown{lim mode A B C D coast fr:Int}{row:Option Nat}(h:dk w b v lim mode A B C D coast fr)(hg:w.grownBy w' row)(hne:some b≠row):dk w' b v lim mode A B C D coast fr:=by
 obtain⟨h0,h1,h2,h3,h4,h5,h6,h7,h8⟩:=h;exact⟨mt h0 hg hne,mt h1 hg hne,mt h2 hg hne,mt h3 hg hne,mt h4 hg hne,mt h5 hg hne,mt h6 hg hne,mt h7 hg hne,mt h8 hg hne⟩
theorem TkO.grown{lim mode A B C D coast fr:Int}{row:Option Nat}(h:TkO w b v lim mode A B C D coast fr code)(hg:w.grownBy w' row)(hne:some b≠row):TkO w' b v lim mode A B C D coast fr code:=⟨h.1.grown hg hne,mt h.2 hg hne⟩
theorem kL(n:Nat)(lim mode A B C D coast fr:Int)(a:Option Addr)(c:Nat)(row:Option Nat)(w:World)(hn:n≤1048576)(hO:mH w a n row):
  Calls Tryz.prog 14 #[.agg #[.slice a n c,J Z lim,J Z mode,J Z A,J Z B,J Z C,J Z D,J Z coast,J Z fr],J Z 1] w fun e w'=>e=.returned (J Z (1+(n:Int)*4))∧Mkd w' a n row∧w.grownBy w' row:=by
 have B1:=ak w (.cells #[.slice a n c,J Z lim,J Z mode,J Z A,J Z B,J Z C,J Z D,J Z coast,J Z fr] 37);have HB:=yz B1;rcases hO with ⟨rfl,rfl⟩ | ⟨g,f,rfl,rfl,hR⟩
 ·clear B1;go_enter Tryz.func14,Tryz.ntmps14;go_wp2_with fail;refine(sc a c _).mono ?_;rintro e w1 ⟨rfl,hw⟩;rw[hw];clear hw w1;go_wp2_with fail;go_ret;exact⟨rfl,.inl ⟨rfl,rfl⟩,⟨(yx HB).os,(yx HB).tape,(yx HB).output,(yx HB).size,fun k hk _=>(yx HB).block k hk⟩⟩
 ·have HR:=yz (hR.kept B1);clear B1 hR;have cM:=yz (fun W h=>tS n c g f W hn h);go_enter Tryz.func14,Tryz.ntmps14;go_wp2_with fail;refine(yx cM _ (yx HR)).mono ?_;rintro e w1 ⟨rfl,hr,hg⟩;have HG:=yz (nC (rI (yx HB)) hg);have HR2:=yz hr;clear hr hg cM;go_wp2_with fail;go_ret;exact⟨rfl,.inr ⟨g,rfl,rfl,yx HR2⟩,yx HG⟩
theorem qe(n:Nat)(lim mode A B C D coast fr:Int)(a:Option Addr)(c:Nat)(row:Option Nat)(w:World)(hn:n≤1048576)(hO:Mkd w a n row):
  Calls Tryz.prog 43 #[.agg #[.slice a n c,J Z lim,J Z mode,J Z A,J Z B,J Z C,J Z D,J Z coast,J Z fr],J Z 1] w fun e w'=>e=.returned (J Z (1+(n:Int)*4))∧Below w.heap.size w w':=by
 have B1:=ak w (.cells #[.slice a n c,J Z lim,J Z mode,J Z A,J Z B,J Z C,J Z D,J Z coast,J Z fr] 37);have HB:=yz B1;rcases hO with ⟨rfl,rfl⟩ | ⟨g,rfl,rfl,hR⟩
 ·clear B1;go_enter Tryz.func43,Tryz.ntmps43;go_wp2_with fail;refine(rK a c _).mono ?_;rintro e w1 ⟨rfl,hw⟩;rw[hw];clear hw w1;go_wp2_with fail;go_ret;exact⟨rfl,yx HB⟩
 ·have HR:=yz (hR.kept B1);clear B1 hR;have cM:=yz (fun W h=>tF n c g W hn h);have hk:decide (1+(n:Int)*4<0)=false:=by simp;omega
  go_enter Tryz.func43,Tryz.ntmps43;go_wp2_with fail;refine(yx cM _ (yx HR)).mono ?_;rintro e w1 ⟨rfl,hw⟩;rw[hw];clear hw w1;go_wp2_with fail;go_ret;exact⟨rfl,yx HB⟩
end
section
open Go.RowKit Go.Sort
theorem DH(w:World)(B:Nat)(h:B≤w.heap.size):(w.alloc (.cells #[] 113)).ownsRow B 113 4 (.slice (some ⟨w.heap.size,0,none⟩) 0 0) 0 []:=
 ⟨rfl,.inr ⟨_,0,#[],rfl,h,Array.getElem?_push_size,Nat.le_refl _,Nat.zero_le _,rfl,rfl⟩⟩
theorem rx{L:List St}{u:Value}(h:u∈ek L):u.oneCell'=true:=by
 unfold ek at h;rw[List.mem_flatMap]at h;obtain⟨s,_,hs⟩:=h;simp[stC]at hs;rcases hs with rfl | rfl | rfl | rfl<;>rfl
variable {b cap:Nat} {a:Option Addr} {w w':World}
theorem zg{o:Nat}{L:List St}(h:aH w (some ⟨b,o,none⟩) L L.length)(j:Nat)(u:Value)(hj:(ek L)[j]? = some u):w.cell? ((⟨b,o,none⟩:Addr).add j)=some u:=by
 have hlt:j<L.length*4:=by
  have:=(List.getElem?_eq_some_iff.1 hj).1;rw[ki]at this;exact this
 have hA:(⟨b,o,none⟩:Addr).add j=⟨b,o+j,none⟩:=by unfold Addr.add;split<;>simp_all
 rw[hA];rcases h with h | ⟨b',o',e,_,hc⟩
 ·omega
 ·simp only[Option.some.injEq,Addr.mk.injEq,and_true]at e;obtain⟨rfl,rfl⟩:=e;obtain⟨e0,e1,e2,e3⟩:=oB L (j / 4) (by omega);obtain⟨c0,c1,c2,c3⟩:=hc (j / 4) (by omega);have h4:j=j / 4*4∨j=j / 4*4+1∨j=j / 4*4+2∨j=j / 4*4+3:=by omega
  rcases h4 with h4 | h4 | h4 | h4
  ·rw[h4,e0]at hj;rw[h4,c0];exact hj
  ·rw[h4,e1]at hj;rw[h4,←Nat.add_assoc,c1];exact hj
  ·rw[h4,e2]at hj;rw[h4,←Nat.add_assoc,c2];exact hj
  ·rw[h4,e3]at hj;rw[h4,←Nat.add_assoc,c3];exact hj
def ay(w:World)(B:Nat)(L:List St)(a:Option Addr)(cap:Nat):Prop:=w.ownsRow B 113 4 (.slice a L.length cap) L.length (ek L)
theorem ay.stars{B:Nat}{L:List St}(h:ay w B L a cap):aH w a L L.length:=by
 obtain⟨a',c',e,_,_,hs⟩:=oQ h;injection e with e1 e2 e3;subst e1;exact hs
theorem ay.row{B:Nat}{L:List St}(h:ay w B L a cap):∃row,mH w a L.length row∧∀g,row=some g→B≤g:=Ic h rfl
theorem ay.capMax{B:Nat}{L:List St}(h:ay w B L a cap):L.length≤cap∧cap≤maxLen:=by
 obtain⟨a',c',e,h1,h2,_⟩:=oQ h;injection e with e1 e2 e3;subst e3;exact⟨h1,h2⟩
theorem ay.kept{B:Nat}{L:List St}(h:ay w B L a cap)(hB:Below w.heap.size w w'):ay w' B L a cap:=by
 obtain⟨h1,h2⟩:=h;refine⟨h1,?_⟩;rcases h2 with h2 | ⟨g,c',cur,e,hg,hh,r⟩
 ·exact .inl h2
 ·exact .inr ⟨g,c',cur,e,hg,by rw[hB.block g (Array.getElem?_eq_some_iff.1 hh).1];exact hh,r⟩
theorem ay.low{B B':Nat}{L:List St}(h:ay w B L a cap)(hb:B'≤B):ay w B' L a cap:=by
 obtain⟨h1,h2⟩:=h;refine⟨h1,?_⟩;rcases h2 with h2 | ⟨g,c',cur,e,hg,r⟩
 ·exact .inl h2
 ·exact .inr ⟨g,c',cur,e,by omega,r⟩
theorem pu{B:Nat}{L:List St}{v:Value}(h:w.ownsRow B 113 4 v L.length (ek L)):∃a cap,v=.slice a L.length cap∧ay w B L a cap:=by
 obtain⟨a,cap,e,_⟩:=oQ h;exact⟨a,cap,e,by unfold ay;rw[←e];exact h⟩
theorem fM.grown{row:Option Nat}(h:fM w b)(hb:b<w.heap.size)(hg:w.grownBy w' row)(hne:some b≠row):fM w' b:=fun i=>by
 have h1:=h i;unfold World.frozen? at h1 ⊢;rw[hg.block b hb hne];exact h1
theorem ay.far{B:Nat}{L:List St}(h:ay w B L a cap){b:Nat}(hne:b<B)(o:Nat)(x:Value):ay (w.setCell ⟨b,o,none⟩ x) B L a cap:=by
 obtain⟨h1,h2⟩:=h;refine⟨h1,?_⟩;rcases h2 with h2 | ⟨g,c',cur,e,hg,hh,r⟩
 ·exact .inl h2
 ·exact .inr ⟨g,c',cur,e,hg,by rw[Below.heap_setCell w ⟨b,o,none⟩ x g (by show g≠b;omega)];exact hh,r⟩
end
section
open Go.RowKit Go.Sort
variable {ao:Option Addr} {P:Program} {w:World}
theorem qs(w:World)(t ty e:TypeId)(i:TypeInfo)(ht:P.underlying t=some (.slice e))(hi:P.info? e=some i)(a:Option Addr)(n cap c:Nat)(hc:n≤cap):
  (Builtin.append_ #[t,t] ty #[.slice a n cap,.slice none 0 c]).run P w=.ok (.slice a n cap) w:=by
 cases a<;>simp[Builtin.append_,run_underlying ht,sizeOf,typeInfo,hi,Builtin.lenOf,Builtin.firstCells,loadCells,storeCells,hc]
theorem JA{B n m:Nat}{t:TypeId}{v:Value}{xs:List Value}(h:w.ownsRow B t m v n xs):∃a cap,v=.slice a n cap∧n≤cap:=by
 rcases h.2 with ⟨h1,h0⟩ | ⟨g,c',cur,e,_,_,h3,_⟩
 ·exact⟨none,0,by rw[h1,h0],by omega⟩
 ·exact⟨_,_,e,h3⟩
theorem lF(w:World){o:Oper}{a:Act}{K:Act→World→Prop}{Q:Exit→Act→World→Prop}(s x:Operand)(t:TypeId)
  (ho:o.op=.call { callee:=.builtin .append,args:=#[s,x],argTypes:=#[t,t] })
  (base:Nat) (e:TypeId) (i:TypeInfo) (z:Value) (size bytes:Nat) (ht:P.underlying t=some (.slice e)) (hi:P.info? e=some i) (hz:i.zero=some z)
  (hsize:i.size=size) (hby:i.bytes=bytes) (hzs:z.cells.size=size) (hsz:0<size)
  (v:Value) (n:Nat) (xs:List Value) (hs:a.eval s=v) (hown:w.ownsRow base e size v n xs)
  (ao:Option Addr) (m c:Nat) (news:List Value) (hx:a.eval x=.slice ao m c) (hl:news.length=m*size) (h0:ao=none→m=0) (hnews:∀ad,ao=some ad→∀j u,news[j]? = some u→w.cell? (ad.add j)=some u) (h1:∀u∈news,u.oneCell'=true)
  (h63:n+m≤maxLen) (hbytes:(n+m)*bytes≤140737488355328) (hbase:base≤w.heap.size)
  (h:∀v' w',w'.ownsRow base e size v' (n+m) (xs ++ news)→w.grownBy w' v.ownBlock→K (a.put o.dst v') w'):o.wp P a w K Q:=by
 cases ao with
 | some ad=>exact wp_append_own w s x t ho base e i z size bytes ht hi hz hsize hby hzs hsz v n xs hs hown ad m c news hx hl (hnews ad rfl) h1 h63 hbytes hbase fun v' w' h2 h3 _=>h v' w' h2 h3
 | none=>
  obtain rfl:=h0 rfl;obtain rfl:news=[]:=List.eq_nil_of_length_eq_zero (by rw[hl];omega);obtain⟨a',cap,rfl,hc⟩:=JA hown;have hr:=qs (P:=P) w t o.type e i ht hi a' n cap c hc;unfold Oper.wp execOp;simp only[ho,resolve,invoke,builtin,Sem.run_bind,Sem.run_pure,Result.andThen_ok,List.map_toArray,List.map_cons,List.map_nil,hs,hx,hr];exact h _ _ (by rw[List.append_nil];exact hown) ⟨rfl,rfl,rfl,Nat.le_refl _,fun _ _ _=>rfl⟩
theorem nf{ops:Array Oper}{rest:List Oper}(w:World){o:Oper}{a:Act}{Q:Exit→Act→World→Prop}(hgd:o.guard=none)(s x:Operand)(t:TypeId)
  (ho:o.op=.call { callee:=.builtin .append,args:=#[s,x],argTypes:=#[t,t] })
  (base:Nat) (e:TypeId) (i:TypeInfo) (z:Value) (size bytes:Nat) (ht:P.underlying t=some (.slice e)) (hi:P.info? e=some i) (hz:i.zero=some z)
  (hsize:i.size=size) (hby:i.bytes=bytes) (hzs:z.cells.size=size) (hsz:0<size)
  (v:Value) (n:Nat) (xs:List Value) (hs:a.eval s=v) (hown:w.ownsRow base e size v n xs)
  (ao:Option Addr) (m c:Nat) (news:List Value) (hx:a.eval x=.slice ao m c) (hl:news.length=m*size) (h0:ao=none→m=0) (hnews:∀ad,ao=some ad→∀j u,news[j]? = some u→w.cell? (ad.add j)=some u) (h1:∀u∈news,u.oneCell'=true)
  (h63:n+m≤maxLen) (hbytes:(n+m)*bytes≤140737488355328) (hbase:base≤w.heap.size)
  (h:∀v' w',w'.ownsRow base e size v' (n+m) (xs ++ news)→w.grownBy w' v.ownBlock→wpList P ops Q rest (a.put o.dst v') w'):wpList P ops Q (o :: rest) a w:=
 wpList_plain hgd fun _ hK=>lF w s x t ho base e i z size bytes ht hi hz hsize hby hzs hsz v n xs hs hown ao m c news hx hl h0 hnews h1 h63 hbytes hbase fun v' w' h2 h3=>hK _ _ (h v' w' h2 h3)
theorem oc{L:List St}(h:aH w ao L L.length)(ad:Addr)(he:ao=some ad)(j:Nat)(u:Value)(hj:(ek L)[j]? = some u):w.cell? (ad.add j)=some u:=by
 subst he;rcases h with h0 | ⟨b,o,e,hb,hc⟩
 ·have:=(List.getElem?_eq_some_iff.1 hj).1;rw[ki]at this;omega
 ·cases e;exact zg (.inr ⟨b,o,rfl,hb,hc⟩) j u hj
theorem te{L:List St}(h:aH w ao L L.length)(he:ao=none):L.length=0:=by
 subst he;rcases h with h0 | ⟨b,o,e,hb,hc⟩
 ·exact h0
 ·cases e
end
section
open Go.Value renaming int → J
open Go.IntKind renaming i64 → Z
open Go.RowKit Go.Sort
theorem FX(T:Array Value)(X:World)(b:Nat)(v:Value)(lim mode A B C D coast fr:Int)(hT:T.getD 2 undef=.pointer (some ⟨b,0,none⟩))(h:dk X b v lim mode A B C D coast fr):(results Tryz.f44 T).run Tryz.prog X=.ok (.agg #[v,J Z lim,J Z mode,J Z A,J Z B,J Z C,J Z D,J Z coast,J Z fr]) X:=by
 obtain⟨h0,h1,h2,h3,h4,h5,h6,h7,h8⟩:=h;simp only[Array.getD_eq_getD_getElem?]at hT;simp[results,Tryz.results44,go_sem,hT,h0,h1,h2,h3,h4,h5,h6,h7,h8]
theorem AA(T:Array Value)(X:World)(b:Nat)(v:Value)(lim mode A B C D coast fr:Int)(hT:T.getD 2 undef=.pointer (some ⟨b,0,none⟩))(h:dk X b v lim mode A B C D coast fr):(results Tryz.f49 T).run Tryz.prog X=.ok (.agg #[v,J Z lim,J Z mode,J Z A,J Z B,J Z C,J Z D,J Z coast,J Z fr]) X:=by
 obtain⟨h0,h1,h2,h3,h4,h5,h6,h7,h8⟩:=h;simp only[Array.getD_eq_getD_getElem?]at hT;simp[results,Tryz.results49,go_sem,hT,h0,h1,h2,h3,h4,h5,h6,h7,h8]
theorem dV{w:World}{b:Nat}{u:Value}{lim0 mode0 A0 B0 C0 D0 coast0 fr0 code0:Int}(h:TkO w b u lim0 mode0 A0 B0 C0 D0 coast0 fr0 code0)(v:Value)(lim mode A B C D coast fr code:Int):TkO ((((((((((w.setCell ⟨b,0,none⟩ v).setCell ⟨b,1,none⟩ (J Z lim)).setCell ⟨b,2,none⟩ (J Z mode)).setCell ⟨b,3,none⟩ (J Z A)).setCell ⟨b,4,none⟩ (J Z B)).setCell ⟨b,5,none⟩ (J Z C)).setCell ⟨b,6,none⟩ (J Z D)).setCell ⟨b,7,none⟩ (J Z coast)).setCell ⟨b,8,none⟩ (J Z fr)).setCell ⟨b,9,none⟩ (J Z code)) b v lim mode A B C D coast fr code:=by
 obtain⟨⟨h0,h1,h2,h3,h4,h5,h6,h7,h8⟩,h9⟩:=h;refine⟨⟨?_,?_,?_,?_,?_,?_,?_,?_,?_⟩,?_⟩<;>simp[go_sem,h0,h1,h2,h3,h4,h5,h6,h7,h8,h9]
theorem jk(L:List St)(lim mode A B C D coast fr:Int)(ad:Option Addr)(c:Nat)(w:World)(hn:L.length≤1048576)(hS:aH w ad L L.length):
  Calls Tryz.prog 44 #[.agg #[.slice ad L.length c,J Z lim,J Z mode,J Z A,J Z B,J Z C,J Z D,J Z coast,J Z fr]] w fun e w'=>∃a cap,e=.returned (.agg #[.slice a L.length cap,J Z lim,J Z mode,J Z A,J Z B,J Z C,J Z D,J Z coast,J Z fr])∧ay w' (w.heap.size+2) L a cap∧Below w.heap.size w w':=by
 have B0:=bq w (.cells #[.slice ad L.length c,J Z lim,J Z mode,J Z A,J Z B,J Z C,J Z D,J Z coast,J Z fr] 37) (.cells #[.slice none 0 0,J Z 0,J Z 0,J Z 0,J Z 0,J Z 0,J Z 0,J Z 0,J Z 0] 37) (.cells #[] 113);have S1:=yz (hS.kept B0);have S0:=((bL w (.slice ad L.length c) lim mode A B C D coast fr 37).kept (ak _ (.cells #[.slice none 0 0,J Z 0,J Z 0,J Z 0,J Z 0,J Z 0,J Z 0,J Z 0,J Z 0] 37))).kept (ak _ (.cells #[] 113));have R0:=(by simpa using bL (w.alloc (.cells #[.slice ad L.length c,J Z lim,J Z mode,J Z A,J Z B,J Z C,J Z D,J Z coast,J Z fr] 37)) (.slice none 0 0) 0 0 0 0 0 0 0 0 37:dk ((w.alloc (.cells #[.slice ad L.length c,J Z lim,J Z mode,J Z A,J Z B,J Z C,J Z D,J Z coast,J Z fr] 37)).alloc (.cells #[.slice none 0 0,J Z 0,J Z 0,J Z 0,J Z 0,J Z 0,J Z 0,J Z 0,J Z 0] 37)) (w.heap.size+1) (.slice none 0 0) 0 0 0 0 0 0 0 0).kept (ak _ (.cells #[] 113));have F0:=((dS w #[.slice ad L.length c,J Z lim,J Z mode,J Z A,J Z B,J Z C,J Z D,J Z coast,J Z fr] 37).kept (by simp) (ak _ (.cells #[.slice none 0 0,J Z 0,J Z 0,J Z 0,J Z 0,J Z 0,J Z 0,J Z 0,J Z 0] 37))).kept (by simp;omega) (ak _ (.cells #[] 113));have G0:=(by simpa using dS (w.alloc (.cells #[.slice ad L.length c,J Z lim,J Z mode,J Z A,J Z B,J Z C,J Z D,J Z coast,J Z fr] 37)) #[.slice none 0 0,J Z 0,J Z 0,J Z 0,J Z 0,J Z 0,J Z 0,J Z 0,J Z 0] 37:fM ((w.alloc (.cells #[.slice ad L.length c,J Z lim,J Z mode,J Z A,J Z B,J Z C,J Z D,J Z coast,J Z fr] 37)).alloc (.cells #[.slice none 0 0,J Z 0,J Z 0,J Z 0,J Z 0,J Z 0,J Z 0,J Z 0,J Z 0] 37)) (w.heap.size+1)).kept (by simp) (ak _ (.cells #[] 113));have N0:=(by simpa using DH ((w.alloc (.cells #[.slice ad L.length c,J Z lim,J Z mode,J Z A,J Z B,J Z C,J Z D,J Z coast,J Z fr] 37)).alloc (.cells #[.slice none 0 0,J Z 0,J Z 0,J Z 0,J Z 0,J Z 0,J Z 0,J Z 0,J Z 0] 37)) (w.heap.size+2) (by simp):(((w.alloc (.cells #[.slice ad L.length c,J Z lim,J Z mode,J Z A,J Z B,J Z C,J Z D,J Z coast,J Z fr] 37)).alloc (.cells #[.slice none 0 0,J Z 0,J Z 0,J Z 0,J Z 0,J Z 0,J Z 0,J Z 0,J Z 0] 37)).alloc (.cells #[] 113)).ownsRow (w.heap.size+2) 113 4 (.slice (some ⟨w.heap.size+1+1,0,none⟩) 0 0) 0 [])
 have HB:=yz B0;have HS:=yz S0;have HR:=yz R0;have HF:=yz F0;have HG:=yz G0;have HN:=yz N0;clear B0 S0 R0 F0 G0 N0 hS;obtain⟨i0,hinf,hz0,hz1,hz2⟩:=info_parts oI;go_enter Tryz.func44,Tryz.ntmps44;go_wp2_with (at_builtin;refine nf _ rfl _ _ 34 rfl (w.heap.size+2) 113 i0 (.agg #[J Z 0,J Z 0,J Z 0,J Z 0]) 4 32 Tryz.underlying34 hinf hz0 hz1 hz2 rfl (by decide) _ _ _ rfl (yx HN) ad L.length c (ek L) rfl (ki L) (te (yx S1)) (oc (yx S1)) (fun u hu=>rx hu) ?d1 ?d2 ?d3 ?_)
 case d1=>
  have:1048576≤maxLen:=by decide +kernel
  omega
 case d2=>omega
 case d3=>simp
 intro v' w1 ho hg;obtain⟨a,cap,rfl,hC⟩:=pu ho;have B1:=yz (vJ (yx HB) hg (yx HB).size (fun g e=>by simp[Value.ownBlock]at e;omega));have S2:=(yx HS).grown hg (by simp[Value.ownBlock];omega);have R2:=yz ((yx HR).grown hg (by simp[Value.ownBlock]));have F2:=yz ((yx HF).grown (yx HS).lt hg (by simp[Value.ownBlock];omega));have G2:=yz ((yx HG).grown (yx HR).lt hg (by simp[Value.ownBlock]));have C1:=yz hC;clear ho hg hC HB HS HR HF HG HN S1;obtain⟨s0,s1,s2,s3,s4,s5,s6,s7,s8⟩:=S2;have S2':Hid (dk w1 w.heap.size (.slice ad L.length c) lim mode A B C D coast fr):=yz ⟨s0,s1,s2,s3,s4,s5,s6,s7,s8⟩;obtain⟨r0,r1,r2,r3,r4,r5,r6,r7,r8⟩:=yx R2;have f0:=yx F2 0;have g0:=yx G2 0;have g1:=yx G2 1;have g2:=yx G2 2;have g3:=yx G2 3;have g4:=yx G2 4;have g5:=yx G2 5;have g6:=yx G2 6;have g7:=yx G2 7;have g8:=yx G2 8;go_wp2_with fail;clear s0 s1 s2 s3 s4 s5 s6 s7 s8 r0 r1 r2 r3 r4 r5 r6 r7 r8 f0 g0 g1 g2 g3 g4 g5 g6 g7 g8;refine bodyPost_ret (v:=.agg #[.slice a L.length cap,J Z lim,J Z mode,J Z A,J Z B,J Z C,J Z D,J Z coast,J Z fr]) ?_ rfl ⟨a,cap,rfl,?_,?_⟩
 ·refine FX _ _ (w.heap.size+1) _ lim mode A B C D coast fr rfl ?_;refine dU (lim0:=0) (mode0:=0) (A0:=0) (B0:=0) (C0:=0) (D0:=0) (coast0:=0) (fr0:=0) (u:=.slice none 0 0) ?_ _ lim mode A B C D coast fr;exact dk.far (yx R2) (show w.heap.size+1≠w.heap.size by omega) _ _
 ·iterate 9 (refine ay.far ?_ (show w.heap.size+1<w.heap.size+2 by omega) _ _)
  exact ay.far (yx C1) (show w.heap.size<w.heap.size+2 by omega) _ _
 ·iterate 9 (refine aB ?_ (show w.heap.size≤w.heap.size+1 by omega) _ _)
  exact aB (yx B1) (Nat.le_refl _) _ _
theorem jl(lim mode A B C D coast fr:Int)(a:Option Addr)(n c:Nat)(w:World):
  Calls Tryz.prog 106 #[.agg #[.slice a n c,J Z lim,J Z mode,J Z A,J Z B,J Z C,J Z D,J Z coast,J Z fr]] w fun e w'=>e=.returned (.agg #[.slice a n c,J Z lim,J Z 0,J Z 0,J Z 0,J Z 0,J Z 0,J Z 0,J Z fr])∧Below w.heap.size w w':=by
 go_enter Tryz.func106,Tryz.ntmps106;go_wp2;exact bodyPost_ret (v:=.agg #[.slice a n c,J Z lim,J Z 0,J Z 0,J Z 0,J Z 0,J Z 0,J Z 0,J Z fr]) (by simp[results,Tryz.results106,go_sem]) rfl ⟨rfl,aF _ _ _⟩
theorem gd(code:Int)(w:World):
  Calls Tryz.prog 28 #[J Z code] w fun e w'=>e=.returned (.agg #[.slice none 0 0,J Z 0,J Z 0,J Z 0,J Z 0,J Z 0,J Z 0,J Z 0,J Z 0,J Z code])∧Below w.heap.size w w':=by
 go_enter Tryz.func28,Tryz.ntmps28;go_wp2;exact bodyPost_ret (v:=.agg #[.slice none 0 0,J Z 0,J Z 0,J Z 0,J Z 0,J Z 0,J Z 0,J Z 0,J Z 0,J Z code]) (by simp[results,Tryz.results28,go_sem]) rfl ⟨rfl,ak _ _⟩
theorem mc(lim mode A B C D coast fr:Int)(a:Option Addr)(n c:Nat)(w:World):
  Calls Tryz.prog 112 #[.agg #[.slice a n c,J Z lim,J Z mode,J Z A,J Z B,J Z C,J Z D,J Z coast,J Z fr]] w fun e w'=>e=.returned (.agg #[.slice a n c,J Z lim,J Z 0,J Z 0,J Z 0,J Z 0,J Z 0,J Z 0,J Z fr])∧Below w.heap.size w w':=by
 go_enter Tryz.func112,Tryz.ntmps112;go_wp2;exact bodyPost_ret (v:=.agg #[.slice a n c,J Z lim,J Z 0,J Z 0,J Z 0,J Z 0,J Z 0,J Z 0,J Z fr]) (by simp[results,Tryz.results112,go_sem]) rfl ⟨rfl,aF _ _ _⟩
theorem oh(lim mode A B C D coast fr:Int)(a:Option Addr)(n c:Nat)(w:World):
  Calls Tryz.prog 50 #[.agg #[.slice a n c,J Z lim,J Z mode,J Z A,J Z B,J Z C,J Z D,J Z coast,J Z fr]] w fun e w'=>e=.returned (.agg #[.slice a n c,J Z lim,J Z mode,J Z A,J Z B,J Z C,J Z D,J Z coast,J Z fr,J Z 0])∧Below w.heap.size w w':=by
 go_enter Tryz.func50,Tryz.ntmps50;go_wp2;exact bodyPost_ret (v:=.agg #[.slice a n c,J Z lim,J Z mode,J Z A,J Z B,J Z C,J Z D,J Z coast,J Z fr,J Z 0]) (by simp[results,Tryz.results50,go_sem]) rfl ⟨rfl,aF _ _ _⟩
theorem sE(T:Array Value)(X:World)(b:Nat)(v:Value)(lim mode A B C D coast fr code:Int)(hT:T.getD 2 undef=.pointer (some ⟨b,0,none⟩))(h:TkO X b v lim mode A B C D coast fr code):(results Tryz.f62 T).run Tryz.prog X=.ok (.agg #[v,J Z lim,J Z mode,J Z A,J Z B,J Z C,J Z D,J Z coast,J Z fr,J Z code]) X:=by
 obtain⟨⟨h0,h1,h2,h3,h4,h5,h6,h7,h8⟩,h9⟩:=h;simp only[Array.getD_eq_getD_getElem?]at hT;simp[results,Tryz.results62,go_sem,hT,h0,h1,h2,h3,h4,h5,h6,h7,h8,h9]
theorem sD(T:Array Value)(X:World)(b:Nat)(v:Value)(lim mode A B C D coast fr code:Int)(hT:T.getD 2 undef=.pointer (some ⟨b,0,none⟩))(h:TkO X b v lim mode A B C D coast fr code):(results Tryz.f69 T).run Tryz.prog X=.ok (.agg #[v,J Z lim,J Z mode,J Z A,J Z B,J Z C,J Z D,J Z coast,J Z fr,J Z code]) X:=by
 obtain⟨⟨h0,h1,h2,h3,h4,h5,h6,h7,h8⟩,h9⟩:=h;simp only[Array.getD_eq_getD_getElem?]at hT;simp[results,Tryz.results69,go_sem,hT,h0,h1,h2,h3,h4,h5,h6,h7,h8,h9]
def jx(w':World)(B:Nat)(t:Tk)(code:Int)(e:Ending):Prop:=∃a cap,e=.returned (.agg #[.slice a t.L.length cap,J Z t.lim,J Z t.mode,J Z t.A,J Z t.B,J Z t.C,J Z t.D,J Z t.coast,J Z t.fr,J Z code])∧ay w' B t.L a cap
theorem fY(w:World)(B:Nat):ay w B [] none 0:=⟨rfl,.inl ⟨rfl,rfl⟩⟩
theorem dL(w:World)(B:Nat)(code:Int):jx w B eh code (.returned (.agg #[.slice none 0 0,J Z 0,J Z 0,J Z 0,J Z 0,J Z 0,J Z 0,J Z 0,J Z 0,J Z code])):=⟨none,0,rfl,fY w B⟩
def fL(t:Tk):Tk:=if aZ t=true then Fi t else eh
def gh(t:Tk):Int:=if aZ t=true then 0 else 1
variable {code:Int} {b:Nat} {v:Value} {w:World}
theorem TkO.far{lim mode A B C D coast fr:Int}(h:TkO w b v lim mode A B C D coast fr code){b':Nat}(hne:b≠b')(o:Nat)(x:Value):TkO (w.setCell ⟨b',o,none⟩ x) b v lim mode A B C D coast fr code:=⟨h.1.far hne o x,by rw[World.cell?_setCell_far _ _ _ _ (Ne.symm hne)];exact h.2⟩
theorem TkO.lt{lim mode A B C D coast fr:Int}(h:TkO w b v lim mode A B C D coast fr code):b<w.heap.size:=h.1.lt
theorem tX(L:List St)(lim mode A B C D coast fr:Int)(ad:Option Addr)(c:Nat)(w:World)(hn:L.length≤1048576)(hS:aH w ad L L.length):
  Calls Tryz.prog 62 #[.agg #[.slice ad L.length c,J Z lim,J Z mode,J Z A,J Z B,J Z C,J Z D,J Z coast,J Z fr]] w fun e w'=>jx w' w.heap.size (fL ⟨L,lim,mode,A,B,C,D,coast,fr⟩) (gh ⟨L,lim,mode,A,B,C,D,coast,fr⟩) e∧Below w.heap.size w w':=by
 have B0:=aF w (.cells #[.slice ad L.length c,J Z lim,J Z mode,J Z A,J Z B,J Z C,J Z D,J Z coast,J Z fr] 37) (.cells #[.slice none 0 0,J Z 0,J Z 0,J Z 0,J Z 0,J Z 0,J Z 0,J Z 0,J Z 0,J Z 0] 39);have T0:=(bL w (.slice ad L.length c) lim mode A B C D coast fr 37).kept (ak _ (.cells #[.slice none 0 0,J Z 0,J Z 0,J Z 0,J Z 0,J Z 0,J Z 0,J Z 0,J Z 0,J Z 0] 39));have R0:=(by simpa using qS (w.alloc (.cells #[.slice ad L.length c,J Z lim,J Z mode,J Z A,J Z B,J Z C,J Z D,J Z coast,J Z fr] 37)) (.slice none 0 0) 0 0 0 0 0 0 0 0 0 39:TkO ((w.alloc (.cells #[.slice ad L.length c,J Z lim,J Z mode,J Z A,J Z B,J Z C,J Z D,J Z coast,J Z fr] 37)).alloc (.cells #[.slice none 0 0,J Z 0,J Z 0,J Z 0,J Z 0,J Z 0,J Z 0,J Z 0,J Z 0,J Z 0] 39)) (w.heap.size+1) (.slice none 0 0) 0 0 0 0 0 0 0 0 0)
 have G0:=(by simpa using dS (w.alloc (.cells #[.slice ad L.length c,J Z lim,J Z mode,J Z A,J Z B,J Z C,J Z D,J Z coast,J Z fr] 37)) #[.slice none 0 0,J Z 0,J Z 0,J Z 0,J Z 0,J Z 0,J Z 0,J Z 0,J Z 0,J Z 0] 39:fM ((w.alloc (.cells #[.slice ad L.length c,J Z lim,J Z mode,J Z A,J Z B,J Z C,J Z D,J Z coast,J Z fr] 37)).alloc (.cells #[.slice none 0 0,J Z 0,J Z 0,J Z 0,J Z 0,J Z 0,J Z 0,J Z 0,J Z 0,J Z 0] 39)) (w.heap.size+1))
 have hsz:w.heap.size+2≤((w.alloc (.cells #[.slice ad L.length c,J Z lim,J Z mode,J Z A,J Z B,J Z C,J Z D,J Z coast,J Z fr] 37)).alloc (.cells #[.slice none 0 0,J Z 0,J Z 0,J Z 0,J Z 0,J Z 0,J Z 0,J Z 0,J Z 0,J Z 0] 39)).heap.size:=by simp
 have S0:=hS.kept B0;have cR:=yz (fun W h=>fR L lim mode A B C D coast fr ad c W hn h);have cC:=yz (fun W h=>jk L lim mode A B C D coast fr ad c W hn h);have HB:=yz B0;have HT:=yz T0;have HR:=yz R0;have HG:=yz G0;have HS:=yz S0;clear B0 T0 R0 G0 S0 hS;go_enter Tryz.func62,Tryz.ntmps62;go_wp2_with fail;generalize (w.alloc (.cells #[.slice ad L.length c,J Z lim,J Z mode,J Z A,J Z B,J Z C,J Z D,J Z coast,J Z fr] 37)).alloc (.cells #[.slice none 0 0,J Z 0,J Z 0,J Z 0,J Z 0,J Z 0,J Z 0,J Z 0,J Z 0,J Z 0] 39)=W at *;refine(yx cR _ (yx HS)).mono ?_;rintro e w1 ⟨rfl,hx⟩;have B1:=aA HB hx;have T1:=an HT hx;have R1:=an HR hx;have G1:=yz ((yx HG).kept (yx HR).lt hx);have S1:=an HS hx;have hsz1:w.heap.size+2≤w1.heap.size:=Nat.le_trans hsz hx.size;clear hx HB HT HR HG HS hsz cR;cases hk:aZ ⟨L,lim,mode,A,B,C,D,coast,fr⟩
 ·have HO1:Hid (fL ⟨L,lim,mode,A,B,C,D,coast,fr⟩=eh):=yz (by unfold fL;rw[hk];rfl);have HO2:Hid (gh ⟨L,lim,mode,A,B,C,D,coast,fr⟩=1):=yz (by unfold gh;rw[hk];rfl);go_wp2_with fail;refine(gd 1 _).mono ?_;rintro e w2 ⟨rfl,hx⟩;have B2:=aA B1 hx;have R2:=an R1 hx;have G2:=yz ((yx G1).kept (yx R1).lt hx);clear hx B1 R1 G1;obtain⟨⟨r0,r1,r2,r3,r4,r5,r6,r7,r8⟩,r9⟩:=yx R2;have g0:=yx G2 0;have g1:=yx G2 1;have g2:=yx G2 2;have g3:=yx G2 3;have g4:=yx G2 4;have g5:=yx G2 5;have g6:=yx G2 6;have g7:=yx G2 7;have g8:=yx G2 8;have g9:=yx G2 9;go_wp2_with fail;clear r0 r1 r2 r3 r4 r5 r6 r7 r8 r9 g0 g1 g2 g3 g4 g5 g6 g7 g8 g9;refine bodyPost_ret (v:=.agg #[.slice none 0 0,J Z 0,J Z 0,J Z 0,J Z 0,J Z 0,J Z 0,J Z 0,J Z 0,J Z 1]) ?_ rfl ⟨?_,?_⟩
  ·refine sE _ _ (w.heap.size+1) _ 0 0 0 0 0 0 0 0 1 rfl ?_;exact dV (yx R2) _ _ _ _ _ _ _ _ _ _
  ·rw[yx HO1,yx HO2];exact dL _ _ _
  ·iterate 10 (refine aB ?_ (show w.heap.size≤w.heap.size+1 by omega) _ _)
   exact yx B2
 ·have HO1:Hid (fL ⟨L,lim,mode,A,B,C,D,coast,fr⟩=⟨L,lim,0,0,0,0,0,0,fr⟩):=yz (by unfold fL;rw[hk];rfl);have HO2:Hid (gh ⟨L,lim,mode,A,B,C,D,coast,fr⟩=0):=yz (by unfold gh;rw[hk];rfl);clear hk;obtain⟨s0,s1,s2,s3,s4,s5,s6,s7,s8⟩:=yx T1;go_wp2_with fail;clear s0 s1 s2 s3 s4 s5 s6 s7 s8;refine(yx cC _ (yx S1)).mono ?_;rintro e w2 ⟨a,cap,rfl,hC,hx⟩;have B2:=aA B1 hx;have R2:=an R1 hx;have G2:=yz ((yx G1).kept (yx R1).lt hx);have C2:=yz (hC.low (B':=w.heap.size+2) (by omega));clear hx hC B1 R1 G1 T1 S1 cC;go_wp2_with fail;refine(jl lim mode A B C D coast fr a L.length cap _).mono ?_;rintro e w3 ⟨rfl,hx⟩;have B3:=aA B2 hx;have R3:=an R2 hx;have G3:=yz ((yx G2).kept (yx R2).lt hx);have C3:=an C2 hx;clear hx B2 R2 G2 C2;obtain⟨⟨r0,r1,r2,r3,r4,r5,r6,r7,r8⟩,r9⟩:=yx R3;have g0:=yx G3 0;have g1:=yx G3 1;have g2:=yx G3 2;have g3:=yx G3 3;have g4:=yx G3 4;have g5:=yx G3 5;have g6:=yx G3 6;have g7:=yx G3 7;have g8:=yx G3 8;have g9:=yx G3 9;go_wp2_with fail;clear r0 r1 r2 r3 r4 r5 r6 r7 r8 r9 g0 g1 g2 g3 g4 g5 g6 g7 g8 g9;refine bodyPost_ret (v:=.agg #[.slice a L.length cap,J Z lim,J Z 0,J Z 0,J Z 0,J Z 0,J Z 0,J Z 0,J Z fr,J Z 0]) ?_ rfl ⟨?_,?_⟩
  ·refine sE _ _ (w.heap.size+1) _ lim 0 0 0 0 0 0 fr 0 rfl ?_;exact dV (yx R3) _ _ _ _ _ _ _ _ _ _
  ·rw[yx HO1,yx HO2];refine⟨a,cap,rfl,?_⟩;refine ay.low (B:=w.heap.size+2) ?_ (by omega);iterate 10 (refine ay.far ?_ (show w.heap.size+1<w.heap.size+2 by omega) _ _)
   exact yx C3
  ·iterate 10 (refine aB ?_ (show w.heap.size≤w.heap.size+1 by omega) _ _)
   exact yx B3
end
section
open Go.Value renaming int → J
open Go.IntKind renaming i64 → Z
open Go.RowKit Go.Sort
theorem kG(L:List St)(lim mode A B C D coast fr:Int)(ad:Option Addr)(c:Nat)(w:World)(hn:L.length≤1048576)(hS:aH w ad L L.length):
  Calls Tryz.prog 49 #[.agg #[.slice ad L.length c,J Z lim,J Z mode,J Z A,J Z B,J Z C,J Z D,J Z coast,J Z fr]] w fun e w'=>∃a cap,e=.returned (.agg #[.slice a L.length cap,J Z lim,J Z mode,J Z A,J Z B,J Z C,J Z D,J Z coast,J Z fr])∧ay w' (w.heap.size+2) L a cap∧Below w.heap.size w w':=by
 have B0:=aF w (.cells #[.slice ad L.length c,J Z lim,J Z mode,J Z A,J Z B,J Z C,J Z D,J Z coast,J Z fr] 37) (.cells #[.slice none 0 0,J Z 0,J Z 0,J Z 0,J Z 0,J Z 0,J Z 0,J Z 0,J Z 0] 92);have S1:=yz (hS.kept B0);have S0:=(bL w (.slice ad L.length c) lim mode A B C D coast fr 37).kept (ak _ (.cells #[.slice none 0 0,J Z 0,J Z 0,J Z 0,J Z 0,J Z 0,J Z 0,J Z 0,J Z 0] 92));have R0:=(by simpa using bL (w.alloc (.cells #[.slice ad L.length c,J Z lim,J Z mode,J Z A,J Z B,J Z C,J Z D,J Z coast,J Z fr] 37)) (.slice none 0 0) 0 0 0 0 0 0 0 0 92:dk ((w.alloc (.cells #[.slice ad L.length c,J Z lim,J Z mode,J Z A,J Z B,J Z C,J Z D,J Z coast,J Z fr] 37)).alloc (.cells #[.slice none 0 0,J Z 0,J Z 0,J Z 0,J Z 0,J Z 0,J Z 0,J Z 0,J Z 0] 92)) (w.heap.size+1) (.slice none 0 0) 0 0 0 0 0 0 0 0)
 have G0:=(by simpa using dS (w.alloc (.cells #[.slice ad L.length c,J Z lim,J Z mode,J Z A,J Z B,J Z C,J Z D,J Z coast,J Z fr] 37)) #[.slice none 0 0,J Z 0,J Z 0,J Z 0,J Z 0,J Z 0,J Z 0,J Z 0,J Z 0] 92:fM ((w.alloc (.cells #[.slice ad L.length c,J Z lim,J Z mode,J Z A,J Z B,J Z C,J Z D,J Z coast,J Z fr] 37)).alloc (.cells #[.slice none 0 0,J Z 0,J Z 0,J Z 0,J Z 0,J Z 0,J Z 0,J Z 0,J Z 0] 92)) (w.heap.size+1))
 have HB:=yz B0;have HS:=yz S0;have HR:=yz R0;have HG:=yz G0;have hsz:((w.alloc (.cells #[.slice ad L.length c,J Z lim,J Z mode,J Z A,J Z B,J Z C,J Z D,J Z coast,J Z fr] 37)).alloc (.cells #[.slice none 0 0,J Z 0,J Z 0,J Z 0,J Z 0,J Z 0,J Z 0,J Z 0,J Z 0] 92)).heap.size=w.heap.size+2:=by simp
 clear B0 S0 R0 G0 hS;obtain⟨i0,hinf,hz0,hz1,hz2⟩:=info_parts oI;go_enter Tryz.func49,Tryz.ntmps49;go_wp2_with fail;generalize (w.alloc (.cells #[.slice ad L.length c,J Z lim,J Z mode,J Z A,J Z B,J Z C,J Z D,J Z coast,J Z fr] 37)).alloc (.cells #[.slice none 0 0,J Z 0,J Z 0,J Z 0,J Z 0,J Z 0,J Z 0,J Z 0,J Z 0] 92)=W at *;obtain⟨s0,s1,s2,s3,s4,s5,s6,s7,s8⟩:=yx HS;refine wp_region_held_drew (S:=(fun w'=>w'.cell? ⟨w.heap.size,0,none⟩=some (.slice ad L.length c)∧w'.cell? ⟨w.heap.size,1,none⟩=some (J Z lim)∧w'.cell? ⟨w.heap.size,2,none⟩=some (J Z mode)∧w'.cell? ⟨w.heap.size,3,none⟩=some (J Z A)∧w'.cell? ⟨w.heap.size,4,none⟩=some (J Z B)∧w'.cell? ⟨w.heap.size,5,none⟩=some (J Z C)∧w'.cell? ⟨w.heap.size,6,none⟩=some (J Z D)∧w'.cell? ⟨w.heap.size,7,none⟩=some (J Z coast)∧w'.cell? ⟨w.heap.size,8,none⟩=some (J Z fr))) (by kernel_rfl) ?_ (fun hHeld=>?_)
 ·exact⟨s0,s1,s2,s3,s4,s5,s6,s7,s8⟩
 refine ab 0 rfl ?_;try simp only[Act.put,ag,ah,ai]
 refine ab 1 rfl ?_;try simp only[Act.put,ag,ah,ai]
 refine ab 4 rfl ?_;try simp only[Act.put,ag,ah,ai]
 refine ab 5 rfl ?_;try simp only[Act.put,ag,ah,ai]
 refine ab 6 rfl ?_;try simp only[Act.put,ag,ah,ai]
 refine ab 7 rfl ?_;try simp only[Act.put,ag,ah,ai]
 refine ab 8 rfl ?_;try simp only[Act.put,ag,ah,ai]
 refine ab 9 rfl ?_;try simp only[Act.put,ag,ah,ai]
 refine ab 10 rfl ?_;try simp only[Act.put,ag,ah,ai]
 refine ab 11 rfl ?_;try simp only[Act.put,ag,ah,ai]
 refine ab 12 rfl ?_;try simp only[Act.put,ag,ah,ai]
 refine ab 13 rfl ?_;try simp only[Act.put,ag,ah,ai]
 have S1d:aH W.drew ad L L.length:=(yx S1).kept (Below.refl _ _).drew;have HBd:Below w.heap.size w W.drew:=(yx HB).drew;have R0d:dk W.drew (w.heap.size+1) (.slice none 0 0) 0 0 0 0 0 0 0 0:=yx HR;have G0d:fM W.drew (w.heap.size+1):=yx HG;have hszd:W.drew.heap.size=w.heap.size+2:=hsz;refine ae 2 rfl fun K hK=>?_;have hnil:W.drew.ownsRow (w.heap.size+2) 113 4 (.slice none 0 0) 0 []:=World.ownsRow_nil _ _ _ _;have hcells:=oc S1d;refine(if_pos (by kernel_rfl)).mpr ?_;simp only[List.getElem_toArray,List.getElem_cons_succ,List.getElem_cons_zero];generalize hA:({ tmps:=_,defers:=_ }:Act)=aa;have hf0:aa.eval (Operand.const (Value.slice none 0 0))=.slice none 0 0:=by subst hA;simp[go_sem]
 have hf1:aa.eval (Operand.tmp 4)=.slice ad L.length c:=by subst hA;simp[go_sem]
 refine lF W.drew (Operand.const (Value.slice none 0 0)) (Operand.tmp 4) 34 rfl (w.heap.size+2) 113 i0 (.agg #[J Z 0,J Z 0,J Z 0,J Z 0]) 4 32 Tryz.underlying34 hinf hz0 hz1 hz2 rfl (by decide) (.slice none 0 0) 0 [] hf0 hnil ad L.length c (ek L) hf1 (ki L) (te S1d) hcells (fun u hu=>rx hu) ?d1 ?d2 ?d3 ?_
 case d1=>
  have:1048576≤maxLen:=by decide +kernel
  omega
 case d2=>omega
 case d3=>omega
 intro v' w1 ho hg;subst hA;rw[Nat.zero_add,List.nil_append]at ho;obtain⟨a,cap,rfl,hC⟩:=pu ho;have B1:=yz (vJ HBd hg HBd.size (fun g e=>by simp[Value.ownBlock]at e));have S2:dk w1 w.heap.size (.slice ad L.length c) lim mode A B C D coast fr:=dk.grown (w:=W.drew) (yx HS) hg (by simp[Value.ownBlock]);have R2:=yz (R0d.grown hg (by simp[Value.ownBlock]));have G2:=yz (G0d.grown R0d.lt hg (by simp[Value.ownBlock]));have C1:=yz hC;clear ho hg hC s0 s1 s2 s3 s4 s5 s6 s7 s8;obtain⟨s0,s1,s2,s3,s4,s5,s6,s7,s8⟩:=S2;refine hK.out _ _ ?_ (fun hHeld1=>?_)
 ·exact⟨s0,s1,s2,s3,s4,s5,s6,s7,s8⟩
 clear hK K hHeld hf0 hf1 hcells hnil;try simp only[Act.put,ag,ah,ai]
 refine ab 3 rfl ?_;try simp only[Act.put,ag,ah,ai]
 refine ab 14 rfl ?_;try simp only[Act.put,ag,ah,ai]
 obtain⟨r0,r1,r2,r3,r4,r5,r6,r7,r8⟩:=yx R2;have g0:=yx G2 0;have g1:=yx G2 1;have g2:=yx G2 2;have g3:=yx G2 3;have g4:=yx G2 4;have g5:=yx G2 5;have g6:=yx G2 6;have g7:=yx G2 7;have g8:=yx G2 8;refine ae 15 rfl fun K hK=>?_;go_simp;have S3:Hid (dk w1 w.heap.size (.slice ad L.length c) lim mode A B C D coast fr):=yz ⟨s0,s1,s2,s3,s4,s5,s6,s7,s8⟩;clear s0 s1 s2 s3 s4 s5 s6 s7 s8 r0 r1 r2 r3 r4 r5 r6 r7 r8 g0 g1 g2 g3 g4 g5 g6 g7 g8;refine hK.out _ _ ?_ (fun hHeld2=>?_)
 ·show dk _ w.heap.size (.slice ad L.length c) lim mode A B C D coast fr;iterate 9 (refine dk.far ?_ (show w.heap.size≠w.heap.size+1 by omega) _ _)
  exact yx S3
 clear hK K hHeld1;refine wpAnyH_done (by kernel_rfl) ?_ _;clear hHeld2;go_wp2_with fail;refine bodyPost_ret (v:=.agg #[.slice a L.length cap,J Z lim,J Z mode,J Z A,J Z B,J Z C,J Z D,J Z coast,J Z fr]) ?_ rfl ⟨a,cap,rfl,?_,?_⟩
 ·refine AA _ _ (w.heap.size+1) _ lim mode A B C D coast fr rfl ?_;exact dU (lim0:=0) (mode0:=0) (A0:=0) (B0:=0) (C0:=0) (D0:=0) (coast0:=0) (fr0:=0) (u:=.slice none 0 0) (yx R2) _ lim mode A B C D coast fr
 ·iterate 9 (refine ay.far ?_ (show w.heap.size+1<w.heap.size+2 by omega) _ _)
  exact yx C1
 ·iterate 9 (refine aB ?_ (show w.heap.size≤w.heap.size+1 by omega) _ _)
  exact yx B1
end
section
open Go.Value renaming int → J
open Go.IntKind renaming i64 → Z
open Go.RowKit Go.Sort
variable {X:Prop} {w1 wn wx:World}
theorem Cq(hx:Below wx.heap.size wx wn)(h:X∧Below w1.heap.size w1 wx):Below w1.heap.size w1 wn:=aj h.2 hx
theorem Cp(hx:Below wx.drew.heap.size wx.drew wn)(h:X∧Below w1.heap.size w1 wx):Below w1.heap.size w1 wn:=h.2.drew.trans (hx.mono h.2.size)
theorem EW{P Q:Nat}{u v:Value}{lim mode A B C D coast fr:Int}(ta:dk w1 P u lim mode A B C D coast fr)(tb:dk w1 Q v lim mode A B C D coast fr)(h:Below w1.heap.size w1 wx):((wx.cell? ⟨P,0,none⟩=some (u)∧wx.cell? ⟨P,1,none⟩=some (J Z lim)∧wx.cell? ⟨P,2,none⟩=some (J Z mode)∧wx.cell? ⟨P,3,none⟩=some (J Z A)∧wx.cell? ⟨P,4,none⟩=some (J Z B)∧wx.cell? ⟨P,5,none⟩=some (J Z C)∧wx.cell? ⟨P,6,none⟩=some (J Z D)∧wx.cell? ⟨P,7,none⟩=some (J Z coast)∧wx.cell? ⟨P,8,none⟩=some (J Z fr))∧(wx.cell? ⟨Q,0,none⟩=some (v)∧wx.cell? ⟨Q,1,none⟩=some (J Z lim)∧wx.cell? ⟨Q,2,none⟩=some (J Z mode)∧wx.cell? ⟨Q,3,none⟩=some (J Z A)∧wx.cell? ⟨Q,4,none⟩=some (J Z B)∧wx.cell? ⟨Q,5,none⟩=some (J Z C)∧wx.cell? ⟨Q,6,none⟩=some (J Z D)∧wx.cell? ⟨Q,7,none⟩=some (J Z coast)∧wx.cell? ⟨Q,8,none⟩=some (J Z fr)))∧Below w1.heap.size w1 wx:=⟨⟨ta.kept h,tb.kept h⟩,h⟩
end
end Go.Proofs.YteoonaanoenjiaaGreatDoor
