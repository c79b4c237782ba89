/- Several texts in one: SpD, IeR, IeS, IeT, IeU, IeV, TfM, TurnD. -/
import Derived.Test.YteoonaanoenjiaaGreatDoorL32
import Derived.Test.YteoonaanoenjiaaGreatDoorL31
namespace Go.Proofs.YteoonaanoenjiaaGreatDoor
set_option linter.unusedVariables false
set_option linter.unusedSimpArgs false
set_option maxRecDepth 100000
set_option maxHeartbeats 8000000
section
open Go.Value renaming int → J
open Go.IntKind renaming i64 → Y
open Go.RowKit Go.Sort
theorem nE:(Tryz.prog.info? 111).map (fun i=>(i.zero,i.size,i.bytes))=some (some (.agg #[J Y 0,J Y 0,J Y 0]),3,24):=by kernel_rfl
def Ix(v:Int×Int×Int):List Value:=[J Y v.1,J Y v.2.1,J Y v.2.2]
def bJ(S:List (Int×Int×Int)):List Value:=S.flatMap Ix
theorem lN(A B:List (Int×Int×Int)):bJ (A ++ B)=bJ A ++ bJ B:=by unfold bJ;rw[List.flatMap_append]
theorem kj{S:List (Int×Int×Int)}{v:Value}(h:v∈bJ S):v.oneCell'=true:=by
 unfold bJ at h;rw[List.mem_flatMap]at h;obtain⟨p,_,hp⟩:=h;simp[Ix]at hp;rcases hp with rfl | rfl | rfl<;>rfl
theorem uZ(w:World)(B:Nat)(h:B≤w.heap.size):(w.alloc (.cells #[] 111)).ownsRow B 111 3 (.slice (some ⟨w.heap.size,0,none⟩) 0 0) 0 (bJ []):=
 ⟨rfl,.inr ⟨_,0,#[],rfl,h,Array.getElem?_push_size,Nat.le_refl _,Nat.zero_le _,rfl,rfl⟩⟩
def spT(wd ht:Int)(s:ByteArray)(fo:Int)(b:Bl):Int×Int×Int:=
 (spI (jg b.su b.sx b.sy wd ht s fo) (spX b.sx wd b.su) (spX b.sy ht b.su) (spZ fo b.su) (spX b.sx wd b.su),spI (jg b.su b.sx b.sy wd ht s fo) (spX b.sx wd b.su) (spX b.sy ht b.su) (spZ fo b.su) (spX b.sy ht b.su),spI (jg b.su b.sx b.sy wd ht s fo) (spX b.sx wd b.su) (spX b.sy ht b.su) (spZ fo b.su) (spZ fo b.su))
def vecG(v:Int×Int×Int):Value:=.agg #[J Y v.1,J Y v.2.1,J Y v.2.2]
theorem IU(wd ht:Int)(s:ByteArray)(fo:Int)(b:Bl):spV b.su b.sx b.sy wd ht s fo=vecG (spT wd ht s fo b):=rfl
def pJ(wd ht:Int)(s:ByteArray)(fo:Int)(b:Bl):Bool:=jK b.ar b.ed 1 20&&cy (spT wd ht s fo b).1 (spT wd ht s fo b).2.1 (spT wd ht s fo b).2.2
def dM(wd ht:Int)(s:ByteArray)(fo:Int)(S:List Bl):List (Int×Int×Int):=(S.filter (pJ wd ht s fo)).map (spT wd ht s fo)
def be(wd ht:Int)(s:ByteArray)(lv fo:Int):List (Int×Int×Int):=if mJ fo=true then dM wd ht s fo (kR wd ht s lv) else []
theorem sw(wd ht:Int)(s:ByteArray)(fo:Int)(S:List Bl):(dM wd ht s fo S).length≤S.length:=by
 unfold dM;rw[List.length_map];exact List.length_filter_le _ _
theorem vg(wd ht:Int)(s:ByteArray)(fo:Int)(S:List Bl)(k:Nat)(b:Bl)(hk:S[k]? = some b):dM wd ht s fo (S.take (k+1))=dM wd ht s fo (S.take k) ++ (if pJ wd ht s fo b=true then [spT wd ht s fo b] else []):=by
 obtain⟨hl,he⟩:=List.getElem?_eq_some_iff.1 hk;have e:S.take (k+1)=S.take k ++ [b]:=by rw[List.take_succ_eq_append_getElem hl,he]
 unfold dM;rw[e,List.filter_append,List.map_append];congr 1
 cases h:pJ wd ht s fo b
 ·rw[List.filter_cons_of_neg (by simp[h])];rfl
 ·rw[List.filter_cons_of_pos h];rfl
variable {s:ByteArray} {c fb:Nat} {a:Option Addr} {w wr wy:World}
theorem rf{B n:Nat}{S:List Bl}(h:w.ownsRow B 163 5 (.slice a n c) n (eZ S))(hn:n=S.length)(k:Nat)(b:Bl)(hk:S[k]? = some b):
  ∃g,a=some ⟨g,0,none⟩∧B≤g∧g<w.heap.size∧w.cell? ⟨g,k*5,none⟩=some (J Y b.ar)∧w.cell? ⟨g,k*5+1,none⟩=some (J Y b.su)∧w.cell? ⟨g,k*5+2,none⟩=some (J Y b.sx)∧w.cell? ⟨g,k*5+3,none⟩=some (J Y b.sy)∧w.cell? ⟨g,k*5+4,none⟩=some (.bool b.ed):=by
 obtain⟨hl,he⟩:=List.getElem?_eq_some_iff.1 hk;rcases h.2 with ⟨h1,h0⟩ | ⟨g,cap,cur,hv,hb,hg,hnc,hcm,hcs,htake⟩
 ·omega
 ·injection hv with e1 e2 e3
  have fl:∀(S:List Bl) (k:Nat) (b:Bl),S[k]? = some b→∀j u,(it b)[j]? = some u→(eZ S)[k*5+j]? = some u:=by
   intro S
   induction S with
   | nil=>intro k b h;simp at h
   | cons x S ih=>
    intro k b h j u hu;have e:eZ (x :: S)=it x ++ eZ S:=by unfold eZ;simp
    have hj:j<5:=(List.getElem?_eq_some_iff.1 hu).1;rw[e];cases k with
    | zero=>
     simp at h;subst h;rw[List.getElem?_append_left (by show _<5;omega)];simpa using hu
    | succ k=>
     rw[List.getElem?_append_right (by show 5≤_;omega)];rw[show (k+1)*5+j-(it x).length=k*5+j by show _-5=_;omega];exact ih k b (by simpa using h) j u hu
  have cl:∀j u,(it b)[j]? = some u→w.cell? ⟨g,k*5+j,none⟩=some u:=by
   intro j u hu;have hj:j<5:=(List.getElem?_eq_some_iff.1 hu).1;have e:=fl S k b hk j u hu;rw[cell_of_row w g _ cur _ _ hg];rw[←htake,List.getElem?_take,if_pos (by omega)]at e;simpa using e
  exact⟨g,e1,hb,(Array.getElem?_eq_some_iff.1 hg).1,cl 0 _ rfl,cl 1 _ rfl,cl 2 _ rfl,cl 3 _ rfl,cl 4 _ rfl⟩
theorem oS(wd ht:Int)(s:ByteArray)(lv:Int):(kR wd ht s lv).length≤8:=by
 unfold kR;split
 ·split
  ·assumption
  ·simp
 ·simp
structure StS (w wr:World) (fb lo:Nat) (wd ht:Int) (s:ByteArray) (a:Option Addr) (n c:Nat) (S:List Bl):Prop where
 fr:Blk wr fb [J Y wd,J Y ht,.string s] 43
 bl:wr.ownsRow w.heap.size 163 5 (.slice a n c) n (eZ S)
 lt:∀z,(Value.slice a n c).ownBlock=some z→z<lo
 lf:fb<lo
 lw:w.heap.size≤lo
 ll:lo≤wr.heap.size
 bel:Below w.heap.size w wr
theorem StS.kept{lo:Nat}{wd ht:Int}{n:Nat}{S:List Bl}(h:StS w wr fb lo wd ht s a n c S)(hB:Below wr.heap.size wr wy):StS w wy fb lo wd ht s a n c S:=
 ⟨h.fr.kept hB,aW h.bl hB,h.lt,h.lf,h.lw,Nat.le_trans h.ll hB.size,aj h.bel hB⟩
theorem StS.byRow{lo:Nat}{wd ht:Int}{n:Nat}{S:List Bl}{row:Option Nat}(h:StS w wr fb lo wd ht s a n c S)(hg:wr.grownBy wy row)(hr:∀g,row=some g→lo≤g):StS w wy fb lo wd ht s a n c S:=by
 have ne:∀b,b<lo→some b≠row:=fun b hb e=>by have:=hr b e.symm;omega
 refine⟨h.fr.grown hg (ne _ h.lf),h.bl.kept hg ?_,h.lt,h.lf,h.lw,Nat.le_trans h.ll hg.size,h.bel.trans ⟨hg.os,hg.tape,hg.output,hg.size,fun k hk=>hg.block k (Nat.lt_of_lt_of_le hk h.bel.size) (ne k (by have:=h.lw;omega))⟩⟩;cases hv:(Value.slice a n c).ownBlock with
 | none=>exact .inl rfl
 | some z=>exact .inr (fun e=>by have:=h.lt z hv;exact ne z this e)
theorem qx(wd ht:Int)(s:ByteArray)(lv fo:Int)(w:World)(hs:s.size≤maxLen):
  Calls Tryz.prog 66 #[.agg #[J Y wd,J Y ht,.string s],J Y lv,J Y fo] w fun e w'=>(∃v,e=.returned v∧w'.ownsRow w.heap.size 111 3 v (be wd ht s lv fo).length (bJ (be wd ht s lv fo)))∧Below w.heap.size w w':=by
 obtain⟨i0,hinf,hz0,hz1,hz2⟩:=info_parts nE;have hm8:400≤maxLen:=by decide +kernel
 have cB:=yz (fun W=>qu wd ht s lv W hs);have hml:=oS wd ht s lv;have HR:Hid (be wd ht s lv fo=if mJ fo=true then dM wd ht s fo (kR wd ht s lv) else []):=yz rfl;generalize mw wd ht s lv=code at *;generalize kR wd ht s lv=S at *;have A0:=ap w [J Y wd,J Y ht,.string s] 43;have B0:=ak w (.cells #[J Y wd,J Y ht,.string s] 43);go_enter Tryz.func66,Tryz.ntmps66;go_wp2_with fail;generalize w.alloc (.cells #[J Y wd,J Y ht,.string s] 43)=W0 at A0 B0 ⊢;refine(yx cB _).mono ?_;rintro e W1 ⟨⟨v1,rfl,ho⟩,hx⟩;obtain⟨a1,c1,rfl⟩:=bM ho;have hfl:w.heap.size<W0.heap.size:=A0.lt;have HST0:StS w W1 w.heap.size W1.heap.size wd ht s a1 S.length c1 S:=⟨A0.kept hx,eT ho (by omega),fun z e=>(ho.lt z e).2,by have:=hx.size;omega,by have:=hx.size;omega,Nat.le_refl _,aj B0 hx⟩
 have Z:=ak W1 (.cells #[.slice a1 S.length c1,J Y code] 160);have HST1:=HST0.kept Z;have X1:=ap W1 [.slice a1 S.length c1,J Y code] 160;clear ho hx Z A0 B0 cB HST0;have x0:=X1.cell 0 _ rfl;have x1:=X1.cell 1 _ rfl;have e1:(W1.alloc (.cells #[.slice a1 S.length c1,J Y code] 160)).heap.size=W1.heap.size+1:=by simp
 have Z:=ak (W1.alloc (.cells #[.slice a1 S.length c1,J Y code] 160)) (.cells #[] 111);have HST2:StS w _ w.heap.size (W1.heap.size+1) wd ht s a1 S.length c1 S:=(show StS w (W1.alloc (.cells #[.slice a1 S.length c1,J Y code] 160)) w.heap.size (W1.heap.size+1) wd ht s a1 S.length c1 S from ⟨HST1.fr,HST1.bl,fun z e=>Nat.lt_succ_of_lt (HST1.lt z e),Nat.lt_succ_of_lt HST1.lf,Nat.le_succ_of_le HST1.lw,by omega,HST1.bel⟩).kept Z;have HX:=yz (X1.kept Z);have HO:=yz (uZ (W1.alloc (.cells #[.slice a1 S.length c1,J Y code] 160)) (W1.heap.size+1) (by omega));have HST:=yz HST2;have hxb:W1.heap.size<W1.heap.size+1:=Nat.lt_succ_self _;rw[e1]at HO;clear Z HST1 HST2 X1 e1;go_wp2_with fail;clear x0 x1;generalize (W1.alloc (.cells #[.slice a1 S.length c1,J Y code] 160)).alloc (.cells #[] 111)=W2 at HST HX HO ⊢;generalize W1.heap.size+1=lo at *;generalize W1.heap.size=xb at *;refine(bp fo 1 40 _).mono ?_;rintro e W3 ⟨rfl,rfl⟩;have hfo:(decide (1≤fo)&&decide (fo≤40))=mJ fo:=isD _ _ _;rw[hfo];clear hfo;cases hf:mJ fo
 ·rw[hf]at HR;have HR':Hid (be wd ht s lv fo=[]):=HR;go_wp2_with fail;go_ret;rw[yx HR'];exact⟨⟨_,rfl,eT (yx HO) (yx HST).lw⟩,(yx HST).bel⟩
 rw[hf,if_pos rfl]at HR;clear hf;go_wp2_with fail;go_loopw [8,9] (fun v kk wr=>∃k:Nat,k≤S.length∧kk=J Y k∧Hid (wr.ownsRow lo 111 3 v (dM wd ht s fo (S.take k)).length (bJ (dM wd ht s fo (S.take k))))∧Hid (StS w wr w.heap.size lo wd ht s a1 S.length c1 S)∧Hid (Blk wr xb [.slice a1 S.length c1,J Y code] 160)) (fun _ kk _=>S.length-(intOf kk).toNat)
 case atStart=>exact⟨0,by omega,rfl,HO,HST,HX⟩
 case round=>
  clear HO HST HX;obtain⟨k,hk,rfl,HO,HST,HX⟩:=hrel;have x0:=(yx HX).cell 0 _ rfl;have x1:=(yx HX).cell 1 _ rfl;by_cases hkn:k<S.length
  ·have hkn2:(k:Int)<(S.length:Int):=by omega
   obtain⟨b,hb⟩:∃b,S[k]? = some b:=⟨S[k],List.getElem?_eq_getElem hkn⟩
   have HSN:=yz (vg wd ht s fo S k b hb);have hpl:(dM wd ht s fo (S.take k)).length≤8:=by have:=sw wd ht s fo (S.take k);have:=List.length_take_le k S;omega
   obtain⟨g,ha,hg1,hg2,c0,c1',c2,c3,c4⟩:=rf (yx HST).bl rfl k b hb;subst ha;clear hb;have HSV:=yz (IU wd ht s fo b);have HKE:Hid (pJ wd ht s fo b=(jK b.ar b.ed 1 20&&cy (spT wd ht s fo b).1 (spT wd ht s fo b).2.1 (spT wd ht s fo b).2.2)):=yz rfl;generalize spT wd ht s fo b=q at *;generalize pJ wd ht s fo b=kp at *;obtain⟨q1,q2,q3⟩:=q;obtain⟨ar,su,sx,sy,ed⟩:=b;have HSV':Hid (spV su sx sy wd ht s fo=.agg #[J Y q1,J Y q2,J Y q3]):=HSV;have HKE':Hid (kp=(jK ar ed 1 20&&cy q1 q2 q3)):=HKE;clear HSV HKE;simp only at c0 c1' c2 c3 c4;have Z:=ak wr (.cells #[J Y ar,J Y su,J Y sx,J Y sy,.bool ed] 163);have HST2:=an HST Z;have HO2:=yz (aW (yx HO) Z);have HX2:=an HX Z;have D2:=ap wr [J Y ar,J Y su,J Y sx,J Y sy,.bool ed] 163;clear Z HST HO HX;obtain⟨d0,d1,d2,d3,d4⟩:=gL (D2);go_wp2_with fail;clear c0 c1' c2 c3 c4 x0 x1;refine(oZ ar su sx sy ed 1 20 _).mono ?_;rintro e W3 ⟨rfl,hx⟩;have HST3:=an HST2 hx;have HO3:=yz (aW (yx HO2) hx);have HX3:=an HX2 hx;have D3:=D2.kept hx;clear hx HST2 HO2 D2 d0 d1 d2 d3 d4 HX2;cases hgd:jK ar ed 1 20
   ·rw[hgd]at HKE';have HKE:Hid (kp=false):=HKE';rw[yx HKE,if_neg (by simp),List.append_nil]at HSN;have HO4:Hid (W3.ownsRow lo 111 3 u8 (dM wd ht s fo (S.take (k+1))).length (bJ (dM wd ht s fo (S.take (k+1))))):=yz (by rw[yx HSN];exact yx HO3);go_wp2_with fail;go_roundw
    case rel=>exact⟨k+1,by omega,by go_num,HO4,HST3,HX3⟩
    case measure=>simp[intOf]<;>omega
   rw[hgd,Bool.true_and]at HKE';obtain⟨d0,d1,d2,d3,d4⟩:=gL (D3);have f0:=(yx HST3).fr.cell 0 _ rfl;have f1:=(yx HST3).fr.cell 1 _ rfl;have f2:=(yx HST3).fr.cell 2 _ rfl;go_wp2_with fail;refine(sP ar su sx sy ed wd ht s fo _).mono ?_;rintro e W4 ⟨rfl,hx⟩;rw[yx HSV'];clear HSV';have Z:=ak W4 (.cells #[J Y q1,J Y q2,J Y q3] 111);have HST5:=aI HST3 hx Z;have HO5:=yz (aW (aW (yx HO3) hx) Z);have HX5:=aI HX3 hx Z;have E5:=ap W4 [J Y q1,J Y q2,J Y q3] 111;clear hx Z HST3 HO3 D3 d0 d1 d2 d3 d4 f0 f1 f2 HX3;obtain⟨e0,e1,e2⟩:=eP (E5);go_wp2_with fail;generalize W4.alloc (.cells #[J Y q1,J Y q2,J Y q3] 111)=W5 at HST5 HO5 E5 e0 e1 e2 HX5 ⊢;generalize W4.heap.size=vb at *;clear e0 e1 e2;refine(pK q1 q2 q3 _).mono ?_;rintro e W6 ⟨rfl,hx⟩;have HST6:=an HST5 hx;have HO6:=yz (aW (yx HO5) hx);have HX6:=an HX5 hx;have E6:=E5.kept hx;clear hx HST5 HO5 E5 HX5;cases hwd:cy q1 q2 q3
   ·rw[hwd]at HKE';rw[yx HKE',if_neg (by simp),List.append_nil]at HSN;have HO7:Hid (W6.ownsRow lo 111 3 u8 (dM wd ht s fo (S.take (k+1))).length (bJ (dM wd ht s fo (S.take (k+1))))):=yz (by rw[yx HSN];exact yx HO6);go_wp2_with fail;go_roundw
    case rel=>exact⟨k+1,by omega,by go_num,HO7,HST6,HX6⟩
    case measure=>simp[intOf]<;>omega
   ·rw[hwd]at HKE';rw[yx HKE',if_pos rfl]at HSN;obtain⟨e0,e1,e2⟩:=eP (E6);have Z1:=ak W6 (.cells #[J Y q1,J Y q2,J Y q3] 111);have hown:=aW (yx HO6) Z1;have ST7:=(yx HST6).kept Z1;have hll:=(yx HST6).ll;have X7:=(yx HX6).kept Z1;clear Z1 HO6 HST6 HX6;generalize dM wd ht s fo (S.take k)=Pk at *;go_wp2_with (at_builtin;refine wpList_append_own _ rfl _ _ 42 rfl lo 111 i0 (.agg #[J Y 0,J Y 0,J Y 0]) 3 24 Tryz.underlying42 hinf hz0 hz1 hz2 rfl (by decide) _ _ _ rfl hown ⟨W6.heap.size,0,none⟩ 1 1 (bJ [(q1,q2,q3)]) rfl rfl ?d2 (fun u hu=>kj hu) ?d3 ?d4 ?d5 ?_)
    case d2=>first | exact fun j u h=>h | exact fk _ _ _
    case d3=>omega
    case d4=>omega
    case d5=>first | omega | (simp;omega)
    intro v7 V7 hown7 hgrow7 _;have HST8:=yz (ST7.byRow hgrow7 (fun q e=>(hown.lt q e).1));have HX8:=yz (X7.grown hgrow7 (fun e=>by have:=(hown.lt _ e.symm).1;omega));have HO8:Hid (V7.ownsRow lo 111 3 v7 (dM wd ht s fo (S.take (k+1))).length (bJ (dM wd ht s fo (S.take (k+1))))):=yz (by rw[yx HSN,lN,List.length_append];exact hown7);clear hown7 hgrow7 hown ST7 e0 e1 e2 E6;go_wp2_with fail;go_roundw
    case rel=>exact⟨k+1,by omega,by go_num,HO8,HST8,HX8⟩
    case measure=>simp[intOf]<;>omega
  ·have hke:k=S.length:=by omega
   have HO3:Hid (wr.ownsRow lo 111 3 u8 (be wd ht s lv fo).length (bJ (be wd ht s lv fo))):=yz (by
    have h:=yx HO;rw[hke,List.take_length]at h;rw[yx HR]
    exact h)
   go_wp2_with fail;go_ret;exact⟨⟨_,rfl,eT (yx HO3) (yx HST).lw⟩,(yx HST).bel⟩
end
section
open Go.RowKit Go.Sort Go.Shelf
attribute [local go_sem] Oper.semAt_some
structure xu (W:World) (p q:Nat) (G:List Int×Nat):Prop where
 most:∃v,W.heap[p]? = some (.cells #[v] 188 (0,0))∧((G.1=[]∧v=.slice none 0 0)∨∃g,v=.slice (some ⟨g,0,none⟩) G.1.length G.1.length∧p≤g∧g≠p∧g≠q∧bI W 2 g (G.1.length*1) (sh G.1))
 alike:W.heap[q]? = some (.cells #[.int .i64 (wrap64 (G.2:Int))] 2 (0,0))
 len:G.1.length≤6
structure GrJ (p q l d:Nat) (rec:Loop) (w0:World) (pre:List (List Int)) (W:World):Prop where
 box:xu W p q (pre.foldl dz ([],0))
 rc:W.heap[l]? = some (.loop rec)
 df:W.heap[d]? = some (.deferred (some []))
 bel:Below w0.heap.size w0 W
variable {d l p q:Nat} {W W' w0:World}
theorem dm{k:Nat}{o:Obj}{row:Option Nat}(h:W.heap[k]? = some o)(hg:W.grownBy W' row)(hne:some k≠row):W'.heap[k]? = some o:=(hg.block k (Array.getElem?_eq_some_iff.1 h).1 hne).trans h
theorem xu.grown{G:List Int×Nat}{row:Option Nat}(h:xu W p q G)(hg:W.grownBy W' row)(hne:∀k cs t f,W.heap[k]? = some (.cells cs t f)→some k≠row):xu W' p q G:=by
 obtain⟨⟨v,h1,h2⟩,h3,h4⟩:=h;refine⟨⟨v,dm h1 hg (hne _ _ _ _ h1),?_⟩,dm h3 hg (hne _ _ _ _ h3),h4⟩;rcases h2 with h2 | ⟨g,e,n0,n1,n2,cur,hc,hr⟩
 ·exact .inl h2
 ·exact .inr ⟨g,e,n0,n1,n2,cur,dm hc hg (hne _ _ _ _ hc),hr⟩
theorem GrJ.abides{rec:Loop}{b:Nat}(hb:w0.heap.size≤b):JAb b (GrJ p q l d rec w0):=fun pre W W' h ⟨es,c,hm⟩ hg=>
 ⟨h.box.grown hg (fun k cs t f hk e=>by have:=Option.some.inj e;subst this;rw[hm]at hk;cases hk),dm h.rc hg (fun e=>by have e2:=Option.some.inj e;have h2:=h.rc;rw[e2,hm]at h2;cases h2),dm h.df hg (fun e=>by have e2:=Option.some.inj e;have h2:=h.df;rw[e2,hm]at h2;cases h2),h.bel.trans ⟨hg.os,hg.tape,hg.output,hg.size,fun k hk=>hg.block k (Nat.lt_of_lt_of_le hk h.bel.size) (fun e=>by have:=Option.some.inj e;omega)⟩⟩
theorem GrJ.below{rec:Loop}(pre:List (List Int))(W W':World)(h:GrJ p q l d rec w0 pre W)(hB:Below W.heap.size W W'):GrJ p q l d rec w0 pre W':=by
 have hg:W.grownBy W' none:=⟨hB.os,hB.tape,hB.output,hB.size,fun k hk _=>hB.block k hk⟩
 exact⟨h.box.grown hg (fun k cs t f hk e=>by cases e),dm h.rc hg (by simp),dm h.df hg (by simp),aj h.bel hB⟩
theorem Ay{P:Program}{n:Nat}{g:Operand}{ps:Array Tmp}{assign body:Code}{Q:Exit→Act→World→Prop}{a:Act}{w:World}{gf:Nat}{lb:Array Value}(hg:a.eval g=.func (.func gf) #[] lb)(eg:∀args w,(callFunc gf args).run P w=.ok (.enter gf args) w)
  (hc:∀(rec:Loop),rec.state=.ready→rec.pending=none→rec.tmps=a.tmps→rec.params=ps→rec.assign=assign→rec.body=body→CallsIn Fence.wide (n-1) P gf (#[.func (.yield (w.heap.size+1)) #[] #[]] ++ lb) ((w.alloc (.deferred (some []))).alloc (.loop rec)) fun e W'=>(∃v,e=.returned v)∧W'.heap[w.heap.size+1]? = some (.loop rec)∧Q .normal { a with defers:={ target:=.collected w.heap.size,args:=#[] } :: a.defers } (W'.putObj (w.heap.size+1) (.loop { rec with state:=.exhausted }))) :
  (Code.rangeFunc g ps assign body).wpIn Fence.wide n P Q a w:=by
 refine wpIn_rangeFunc fun fn _=>?_;refine⟨w.heap.size+1,_,_,{ target:=.fn (.func gf) lb,args:=#[.func (.yield (w.heap.size+1)) #[] #[]] },?wa,gf,#[.func (.yield (w.heap.size+1)) #[] #[]] ++ lb,?wb,run_enterLoop_outer _ _ _ _ _,?res,fun _ _=>trivial,?inv,fun h=>(by cases h),?call⟩
 case res=>
  simp only[resolve,hg];simp[go_sem];rfl
 case inv=>
  simp[invoke,go_sem,eg];rfl
 case call=>
  refine(hc _ rfl rfl rfl rfl rfl rfl).mono ?_;rintro e W' ⟨⟨v,rfl⟩,hl,hq⟩;exact⟨none,_,run_endLoop hl (by simp),hq⟩
attribute [local go_sem] Oper.semAt_some
theorem GN(a:Int):wrap64 (wrap64 a+1)=wrap64 (a+1):=by unfold wrap64;omega
theorem Er(a:Nat):wrap64 (wrap64 (a:Int)+1)=wrap64 ((a+1:Nat):Int):=by rw[GN];rfl
variable {l p q x:Nat} {t:TypeId} {W:World}
theorem kY{v:Value}(h:W.heap[p]? = some (.cells #[v] t (0,0))):W.cell? ⟨p,0,none⟩=some v∧W.frozen? ⟨p,0,none⟩=false:=by
 constructor<;>simp[World.cell?,World.frozen?,h]
theorem BQ{o o':Obj}(h:W.heap[l]? = some o)(h1:o.isCells=false)(h2:o.isWalk=false):KpX p q W (W.putObj l o'):=
 ⟨by simp,rfl,rfl,rfl,fun k ob hk ho _ _=>by
  have hne:k≠l:=fun e=>by subst e;rw[h]at hk;cases hk;rcases ho with ho | ho<;>simp_all
  exact(World.putObj_heap_other hne).trans hk⟩
theorem wq(W:World)(v:Value)(hx:x=p∨x=q):KpX p q W (W.setCell ⟨x,0,none⟩ v):=
 ⟨by simp,rfl,rfl,rfl,fun k o hk _ h1 h2=>by rw[Below.heap_setCell W ⟨x,0,none⟩ v k (by show k≠x;rcases hx with rfl | rfl<;>assumption)];exact hk⟩
theorem vL{u:Value}(h:W.heap[x]? = some (.cells #[u] t (0,0)))(v:Value):(W.setCell ⟨x,0,none⟩ v).heap[x]? = some (.cells #[v] t (0,0)):=by
 have:=heap_setCell_same W x 0 #[u] t v h;simpa using this
theorem gX{k:Nat}{o:Obj}(h:W.heap[k]? = some o)(hne:k≠x)(v:Value):(W.setCell ⟨x,0,none⟩ v).heap[k]? = some o:=by rw[Below.heap_setCell W ⟨x,0,none⟩ v k hne];exact h
theorem wW{g m:Nat}{f:Nat→Value}(h:bI W t g m f)(hne:g≠x)(v:Value):bI (W.setCell ⟨x,0,none⟩ v) t g m f:=by
 obtain⟨cur,hc,hr⟩:=h;exact⟨cur,gX hc hne v,hr⟩
theorem oV{d:Nat}{rec rb:Loop}{w V V':World}{pre:List (List Int)}{xi:List Int}(hJ:GrJ p q l d rec w pre W)(hV:W.putObj l (.loop rb)=V)(hrb:({ rb with state:=.ready,pending:=none }:Loop)=rec)(hlw:w.heap.size≤l)(hld:l≠d)
  (hb:xu V' p q (dz (pre.foldl dz ([],0)) xi)) (hl:V'.heap[l]? = some (.loop rb)) (hd:V'.heap[d]? = some (.deferred (some []))) (hB:Below w.heap.size V V') (hk:KpX p q V V') :
  ∃v w',(Instr.endRound l none).run Tryz.prog V'=.ok v w'∧(Ending.returned v=.returned (.bool true)∧GrJ p q l d rec w (pre ++ [xi]) w'∧KpX p q W w'):=by
 have he:=run_endRound (P:=Tryz.prog) none hl;have hrb':({ rb with state:=if (none:Option Code).isNone then .ready else .done,pending:=none }:Loop)=rec:=hrb;rw[hrb']at he;have hg:=grownBy_putObj' V' l (.loop rec);have hnc:∀k cs t f,V'.heap[k]? = some (.cells cs t f)→some k≠some l:=fun k cs t f hk e=>by have:=Option.some.inj e;rw[this,hl]at hk;cases hk
 refine⟨_,_,he,rfl,⟨?_,World.putObj_heap_same (Array.getElem?_eq_some_iff.1 hl).1,dm hd hg (fun e=>hld (Option.some.inj e).symm),?_⟩,?_⟩
 ·rw[List.foldl_append];exact hb.grown hg hnc
 ·have b1:Below w.heap.size W V:=hV ▸ ((Below.refl w.heap.size W).grown (grownBy_putObj' W l (.loop rb)) hJ.bel.size (fun k e=>by cases e;exact hlw));exact((hJ.bel.trans b1).trans hB).trans ((Below.refl w.heap.size V').grown hg (Nat.le_trans hJ.bel.size (Nat.le_trans b1.size hB.size)) (fun k e=>by cases e;exact hlw))
 ·have k1:KpX p q W V:=hV ▸ BQ hJ.rc rfl rfl;exact(k1.trans hk).trans (BQ hl rfl rfl)
theorem vX(L:List St)(S:List D3)(ar br:Option Addr)(cr dr s1 s2:Nat)(w:World)(hk:bk L=true)(hm:S.length≤6)(h1:w.cell? ⟨s1,0,none⟩=some (.slice ar L.length cr))(h2:w.cell? ⟨s2,0,none⟩=some (.slice br S.length dr))(hS:aH w ar L L.length)(hD:bi w br S S.length)(hA:∀y,ar=some y→y.block<w.heap.size)(hB:∀y,br=some y→y.block<w.heap.size)(n:Nat):
  CallsIn Fence.wide n Tryz.prog 201 #[.func (.func 216) #[] #[.pointer (some ⟨s1,0,none⟩),.pointer (some ⟨s2,0,none⟩)]] w fun e w'=>(∃v,e=.returned (.tuple #[v,.int .i64 (wrap64 ((dJ L S).2:Int))])∧(((dJ L S).1=[]∧v=.slice none 0 0)∨∃g,v=.slice (some ⟨g,0,none⟩) (dJ L S).1.length (dJ L S).1.length∧w.heap.size≤g∧bI w' 2 g ((dJ L S).1.length*1) (sh (dJ L S).1)))∧Below w.heap.size w w'∧(dJ L S).1.length≤6:=by
 refine callsIn_of_wp_marks Tryz.func201 rfl trivial ?_ rfl;simp only[Tryz.ntmps201,List.size_toArray,List.length_cons,List.length_nil,Nat.reduceAdd,Nat.reduceSub,Array.replicate_succ,Array.replicate_zero,List.push_toArray,List.append_toArray,List.nil_append,List.cons_append];gi_wp2
 have B0:=aF w (.cells #[.slice none 0 0] 188) (.cells #[.int .i64 0] 2);have hz0:((w.alloc (.cells #[.slice none 0 0] 188)).alloc (.cells #[.int .i64 0] 2)).heap.size=w.heap.size+2:=by simp
 have hp0:((w.alloc (.cells #[.slice none 0 0] 188)).alloc (.cells #[.int .i64 0] 2)).heap[w.heap.size]? = some (.cells #[.slice none 0 0] 188 (0,0)):=(Below.heap_alloc _ _ _ (by simp)).trans (World.alloc_heap_new w _)
 have hq0:((w.alloc (.cells #[.slice none 0 0] 188)).alloc (.cells #[.int .i64 0] 2)).heap[w.heap.size+1]? = some (.cells #[.int .i64 0] 2 (0,0)):=by
  have:=World.alloc_heap_new (w.alloc (.cells #[.slice none 0 0] 188)) (.cells #[.int .i64 0] 2);rw[World.size_alloc]at this;exact this
 generalize hW0:(w.alloc (.cells #[.slice none 0 0] 188)).alloc (.cells #[.int .i64 0] 2)=W0 at *;clear hW0;refine Ay rfl (enters_of Tryz.func216 (by kernel_rfl) rfl) ?_;intro rec hst hpe htm hpa has hbo;have B1:Below W0.heap.size W0 ((W0.alloc (.deferred (some []))).alloc (.loop rec)):=aF W0 _ _;have hz1:((W0.alloc (.deferred (some []))).alloc (.loop rec)).heap.size=w.heap.size+4:=by simp;omega
 have hl1:((W0.alloc (.deferred (some []))).alloc (.loop rec)).heap[W0.heap.size+1]? = some (.loop rec):=by
  have:=World.alloc_heap_new (W0.alloc (.deferred (some []))) (.loop rec);rw[World.size_alloc]at this;exact this
 have hd1:((W0.alloc (.deferred (some []))).alloc (.loop rec)).heap[W0.heap.size]? = some (.deferred (some [])):=(Below.heap_alloc _ _ _ (by simp)).trans (World.alloc_heap_new W0 _);generalize hW1:(W0.alloc (.deferred (some []))).alloc (.loop rec)=W1 at *;clear hW1;rw[hz0]at hl1 hd1 ⊢;have Bw:=aj B0 B1;have Jst:GrJ w.heap.size (w.heap.size+1) (w.heap.size+2+1) (w.heap.size+2) rec w [] W1:=⟨⟨⟨_,by rw[B1.block _ (by omega)];exact hp0,.inl ⟨rfl,rfl⟩⟩,by rw[B1.block _ (by omega),hq0];exact congrArg (fun z=>some (Obj.cells #[Value.int .i64 z] 2 (0,0))) (show (0:Int)=wrap64 0 from (aq (by omega) (by omega)).symm),by simp⟩,hl1,hd1,Bw⟩
 refine(Hb L S ar br cr dr (w.heap.size+2+1) w.heap.size (w.heap.size+1) s1 s2 (n-1) (GrJ w.heap.size (w.heap.size+1) (w.heap.size+2+1) (w.heap.size+2) rec w) W1 hk hm (bA h1 Bw) (bA h2 Bw) (hS.kept Bw) (hD.kept Bw) (fun y e=>by have:=hA y e;omega) (fun y e=>by have:=hB y e;omega) (by omega) (by omega) (fun b hb=>GrJ.abides (by omega)) GrJ.below ?round Jst).mono ?behind
 case round=>
  clear Jst B1 Bw hl1 hd1 hp0 hq0 B0;intro m pre x W hJ hW0 hx hlen;obtain⟨xi,xg⟩:=x;unfold Jw at hx;unfold Jx;dsimp only at hx hlen hW0 ⊢
  have hfar:w.heap.size≤xg:=by
   obtain⟨W0',hJ0,h0⟩:=hW0;have:=(Array.getElem?_eq_some_iff.1 hJ0.rc).1;omega
  clear hW0;refine⟨rec.fn,_,rec.assign,rec.body,run_yield hJ.rc (by rw[hpa];rfl),roundIn_of_wpIn trivial ?_⟩;rw[has,hbo,htm,hpa];have hW2:=hJ.rc;have hbeg:=run_beginRound (P:=Tryz.prog) hJ.rc hst;have hG2:=grownBy_putObj' W (w.heap.size+2+1) (.loop { rec with state:=.busy });have hnc:∀k cs t f,W.heap[k]? = some (.cells cs t f)→some k≠some (w.heap.size+2+1):=fun k cs t f hk e=>by have:=Option.some.inj e;rw[this,hJ.rc]at hk;cases hk
  have hBx:=hJ.box.grown hG2 hnc;have hX2:bI (W.putObj (w.heap.size+2+1) (.loop { rec with state:=.busy })) 2 xg (xi.length*1) (sh xi):=by obtain⟨cur,hc,hr⟩:=hx;exact⟨cur,dm hc hG2 (hnc _ _ _ _ hc),hr⟩
  have hl2:(W.putObj (w.heap.size+2+1) (.loop { rec with state:=.busy })).heap[w.heap.size+2+1]? = some (.loop { rec with state:=.busy }):=World.putObj_heap_same (Array.getElem?_eq_some_iff.1 hJ.rc).1;have HBx:=yz hBx;have HX:=yz hX2;have HL2:=yz hl2;have HJ:=yz hJ;have HG2:=yz hG2;have HRB:Hid (({ ({ rec with state:=.busy }:Loop) with state:=.ready,pending:=none }:Loop)=rec):=yz (by cases rec;simp_all);clear hBx hX2 hl2 hJ hx hnc hG2 hW2 has hbo htm hpa hpe hst;generalize hrb:({ rec with state:=.busy }:Loop)=rb at *;clear hrb;have cN:=yz (fun (j:Nat)=>CallsIn.inRound (w.heap.size+2+1) ((callsIn_wide (n:=j)).2 (gz xi (some ⟨xg,0,none⟩) xi.length _ (by omega) (nN (yx HX)))));gi_wp2
  refine⟨trivial,fun h=>(by cases h),?_⟩;refine(yx cN _).mono ?_;rintro e V1 ⟨rfl,hV1⟩;generalize hV:W.putObj (w.heap.size+2+1) (.loop rb)=V at *;subst hV1;obtain⟨G,hG⟩:∃G,pre.foldl dz ([],0)=G:=⟨_,rfl⟩
  rw[hG]at HBx;have HG:=yz hG;clear hG hbeg cN;obtain⟨Gm,Ga⟩:=G;obtain⟨⟨vm,hvm,hmost⟩,halike,hlenG⟩:=yx HBx;dsimp only at hmost halike hlenG;have HD2:Hid (V1.heap[w.heap.size+2]? = some (.deferred (some []))):=yz (by rw[←hV];exact dm (yx HJ).df (grownBy_putObj' W _ _) (fun e=>by have:=Option.some.inj e;omega));have hV1s:w.heap.size+4≤V1.heap.size:=by have:=(Array.getElem?_eq_some_iff.1 (yx HL2)).1;omega
  obtain⟨am,cm,hvf,hnm⟩:∃am cm,vm=.slice am Gm.length cm∧ij V1 am Gm Gm.length:=by
   rcases hmost with ⟨e1,e2⟩ | ⟨g,e,_,_,_,hr⟩
   ·exact⟨none,0,by rw[e1,e2];rfl,.inl (by rw[e1];rfl)⟩
   ·exact⟨_,_,e,nN hr⟩
  subst hvf;have HM:=yz hmost;have HVM:=yz hvm;have HAL:=yz halike;obtain⟨m0,m1⟩:=kY hvm;obtain⟨a0,a1⟩:=kY halike;have cM:=yz (fun (j:Nat)=>CallsIn.inRound (w.heap.size+2+1) ((callsIn_wide (n:=j)).2 (gz Gm am cm V1 (by omega) hnm)));have HSame:Hid (dz (Gm,Ga) xi=(Gm,Ga)→∃v w',(Instr.endRound (w.heap.size+2+1) none).run Tryz.prog V1=.ok v w'∧(Ending.returned v=.returned (.bool true)∧GrJ w.heap.size (w.heap.size+1) (w.heap.size+2+1) (w.heap.size+2) rec w (pre ++ [xi]) w'∧KpX w.heap.size (w.heap.size+1) W w')):=yz (fun e=>oV (yx HJ) hV (yx HRB) (by omega) (by omega) (by rw[yx HG,e];exact yx HBx) (yx HL2) (yx HD2) (Below.refl _ _) ⟨Nat.le_refl _,rfl,rfl,rfl,fun _ _ h _ _ _=>h⟩);clear hmost hvm halike hnm;by_cases c3:aQ xi<3
  ·have c3':(aQ xi:Int)<3:=by omega
   gi_wp2
   refine⟨trivial,?_⟩;gi_wp2
   exact yx HSame (by unfold dz;rw[if_pos (.inl c3)])
  have c3':¬(aQ xi:Int)<3:=by omega
  gi_wp2
  refine⟨trivial,fun h=>(by cases h),?_⟩;refine(yx cM _).mono ?_;rintro e V2 ⟨rfl,hV2⟩;rw[hV2];clear hV2 V2;by_cases c4:aQ xi<aQ Gm
  ·have c4':(aQ xi:Int)<(aQ Gm:Int):=by omega
   gi_wp2
   exact yx HSame (by unfold dz;rw[if_pos (.inr c4)])
  have c4':¬(aQ xi:Int)<(aQ Gm:Int):=by omega
  gi_wp2
  refine⟨trivial,fun h=>(by cases h),?_⟩;refine(yx cM _).mono ?_;rintro e V2 ⟨rfl,hV2⟩;rw[hV2];clear hV2 V2;have hxl:3≤xi.length:=by have:=lK xi;omega
  have hxp:xg≠w.heap.size:=fun e=>by
   obtain⟨cur,hc,_⟩:=yx HX;have h5:=yx HVM;rw[←e,hc]at h5;simp at h5
  have hxq:xg≠w.heap.size+1:=fun e=>by
   obtain⟨cur,hc,hr⟩:=yx HX;have h5:=yx HAL;rw[←e,hc]at h5;simp at h5;have h6:=hr 1 (by omega);rw[h5]at h6;simp at h6
  by_cases c5:aQ Gm<aQ xi
  ·have c5':(aQ Gm:Int)<(aQ xi:Int):=by omega
   gi_wp2
   have hst:dz (Gm,Ga) xi=(xi,1):=by unfold dz;dsimp only;rw[if_neg (by rintro (h | h)<;>omega),if_pos c5]
   refine oV (yx HJ) hV (yx HRB) (by omega) (by omega) ?_ (gX (gX (yx HL2) (by omega) _) (by omega) _) (gX (gX (yx HD2) (by omega) _) (by omega) _) (((Below.refl w.heap.size V1).setCell (p:=⟨w.heap.size,0,none⟩) (Nat.le_refl _) _).setCell (p:=⟨w.heap.size+1,0,none⟩) (by show w.heap.size≤w.heap.size+1;omega) _) ((wq V1 _ (.inl rfl)).trans (wq _ _ (.inr rfl)));rw[yx HG,hst];refine⟨⟨_,gX (vL (yx HVM) _) (by omega) _,.inr ⟨xg,rfl,hfar,hxp,hxq,wW (wW (yx HX) hxp _) hxq _⟩⟩,?_,hlen⟩;have h7:=vL (gX (x:=w.heap.size) (yx HAL) (by omega) (Value.slice (some ⟨xg,0,none⟩) xi.length xi.length)) (Value.int .i64 1);rw[show wrap64 (((xi,1):List Int×Nat).2:Int)=1 from aq (n:=1) (by omega) (by omega)];exact h7
  ·have c5':¬(aQ Gm:Int)<(aQ xi:Int):=by omega
   gi_wp2
   have hst:dz (Gm,Ga) xi=(Gm,Ga+1):=by unfold dz;dsimp only;rw[if_neg (by rintro (h | h)<;>omega),if_neg c5]
   refine oV (yx HJ) hV (yx HRB) (by omega) (by omega) ?_ (gX (yx HL2) (by omega) _) (gX (yx HD2) (by omega) _) ((Below.refl w.heap.size V1).setCell (p:=⟨w.heap.size+1,0,none⟩) (by show w.heap.size≤w.heap.size+1;omega) _) (wq V1 _ (.inr rfl));rw[yx HG,hst];refine⟨⟨_,gX (yx HVM) (by omega) _,?_⟩,?_,hlenG⟩
   ·rcases yx HM with h | ⟨g,e,n0,n1,n2,hr⟩
    ·exact .inl h
    ·exact .inr ⟨g,e,n0,n1,n2,wW hr n2 _⟩
   ·have h7:=vL (yx HAL) (Value.int .i64 (wrap64 (wrap64 (Ga:Int)+1)));rw[h7]
    have e8:wrap64 (wrap64 (Ga:Int)+1)=wrap64 (((Gm,Ga+1):List Int×Nat).2:Int):=by
     show wrap64 (wrap64 (Ga:Int)+1)=wrap64 ((Ga+1:Nat):Int);exact Er Ga
    rw[e8]
 case behind=>
  rintro e W' ⟨⟨v,rfl⟩,hJ⟩;refine⟨⟨_,rfl⟩,hJ.rc,?_⟩;have hne:∀k cs t f,W'.heap[k]? = some (.cells cs t f)→some k≠some (w.heap.size+2+1):=fun k cs t f hk e=>by have:=Option.some.inj e;rw[this,hJ.rc]at hk;cases hk
  have hBx:=fun o=>hJ.box.grown (grownBy_putObj' W' (w.heap.size+2+1) o) hne;have HBx:=yz hBx;have HDf:=yz (fun o=>dm hJ.df (grownBy_putObj' W' (w.heap.size+2+1) o) (fun e=>by have:=Option.some.inj e;omega));have HBl:=yz (fun o=>hJ.bel.trans ((Below.refl w.heap.size W').grown (grownBy_putObj' W' (w.heap.size+2+1) o) hJ.bel.size (fun k e=>by cases e;omega)));obtain⟨⟨vm,hvm,hmost⟩,halike,hlen6⟩:=hJ.box;have m0:=fun o=>(kY (dm hvm (grownBy_putObj' W' (w.heap.size+2+1) o) (hne _ _ _ _ hvm))).1;have a0:=fun o=>(kY (dm halike (grownBy_putObj' W' (w.heap.size+2+1) o) (hne _ _ _ _ halike))).1;have HM:=yz hmost;have HNe:=yz hne;clear hBx hvm hmost halike hne hJ B1 Bw hl1 hd1 hp0 hq0 B0 Jst has hbo htm hpa hpe hst;gi_wp2
  gi_region
  gi_wp2
  refine⟨by simp,.inl ⟨w.heap.size+2,_,rfl,run_takeDeferred (yx HDf _),?_⟩⟩;have HBy:=yz (fun o=>(yx HBl o).drew.trans ((Below.refl w.heap.size _).grown (grownBy_putObj' (W'.putObj (w.heap.size+2+1) o).drew (w.heap.size+2) (.deferred none)) (yx HBl o).size (fun k e=>by cases e;omega)));refine⟨_,by simp[results,go_sem];rfl,⟨vm,rfl,?_⟩,yx HBy _,hlen6⟩;rcases yx HM with h | ⟨g,e,n0,n1,n2,hr⟩
  ·exact .inl h
  ·refine .inr ⟨g,e,n0,?_⟩;obtain⟨cur,hc,hr⟩:=hr;have k1:=fun o=>dm hc (grownBy_putObj' W' (w.heap.size+2+1) o) (yx HNe _ _ _ _ hc)
   have hgd:g≠w.heap.size+2:=fun e=>by
    have h2:=yx HDf (.deferred none);have h3:=k1 (.deferred none);rw[e,h2]at h3;cases h3
   have k2:∀o,((W'.putObj (w.heap.size+2+1) o).drew.putObj (w.heap.size+2) (.deferred none)).heap[g]? = some (.cells cur 2 (0,0)):=fun o=>(World.putObj_heap_other hgd).trans (k1 o);exact⟨cur,k2 _,hr⟩
theorem yv(L:List St)(S:List D3)(ar br:Option Addr)(cr dr:Nat)(w:World):
  Calls Tryz.prog 202 #[.slice ar L.length cr,.slice br S.length dr] w fun e w'=>e=.returned (.func (.func 216) #[] #[.pointer (some ⟨w.heap.size,0,none⟩),.pointer (some ⟨w.heap.size+1,0,none⟩)])∧w'.cell? ⟨w.heap.size,0,none⟩=some (.slice ar L.length cr)∧w'.cell? ⟨w.heap.size+1,0,none⟩=some (.slice br S.length dr)∧Below w.heap.size w w':=by
 go_enter Tryz.func202,Tryz.ntmps202;go_wp2;refine bodyPost_ret (v:=.func (.func 216) #[] #[.pointer (some ⟨w.heap.size,0,none⟩),.pointer (some ⟨w.heap.size+1,0,none⟩)]) (by simp[results,go_sem]) rfl ⟨rfl,?_,?_,aF w _ _⟩
 ·exact bA (by simp) (ak _ _)
 ·have:=World.alloc_heap_new (w.alloc (.cells #[.slice ar L.length cr] 34)) (.cells #[.slice br S.length dr] 42);rw[World.size_alloc]at this;exact(kY this).1
end
section
open Go.Value renaming int → J
open Go.IntKind renaming i64 → Z
open Go.RowKit Go.Sort Go.Shelf
def IY(w':World)(B:Nat)(ids:List Int)(cnt code:Int)(e:Ending):Prop:=∃v,e=.returned (.agg #[v,J Z cnt,J Z code])∧((ids=[]∧v=.slice none 0 0)∨∃g,v=.slice (some ⟨g,0,none⟩) ids.length ids.length∧B≤g∧bI w' 2 g (ids.length*1) (sh ids))
theorem jS(T:Array Value)(X:World)(b:Nat)(v:Value)(c k:Int)(hT:T.getD 4 undef=.pointer (some ⟨b,0,none⟩))(h:IdO X b v c k):(results Tryz.f184 T).run Tryz.prog X=.ok (.agg #[v,J Z c,J Z k]) X:=by
 obtain⟨h0,h1,h2⟩:=h;simp only[Array.getD_eq_getD_getElem?]at hT;simp[results,Tryz.results184,go_sem,hT,h0,h1,h2]
theorem sI{W:World}{x g m:Nat}{t:TypeId}{f:Nat→Value}(h:bI W t g m f)(hne:g≠x)(o:Nat)(v:Value):bI (W.setCell ⟨x,o,none⟩ v) t g m f:=by
 obtain⟨cur,hc,hr⟩:=h;exact⟨cur,by rw[Below.heap_setCell W ⟨x,o,none⟩ v g hne];exact hc,hr⟩
theorem xX:∀(X:List (List Int)) (g:List Int×Nat),(X.foldl dz g).2≤g.2+X.length
 | [],g=>by simp
 | x :: X,g=>by
  have h1:=xX X (dz g x)
  have h2:(dz g x).2≤g.2+1:=by
   unfold dz;split
   ·exact Nat.le_succ _
   ·split
    ·show 1≤g.2+1;omega
    ·exact Nat.le_refl _
  rw[List.foldl_cons,List.length_cons];omega
theorem Df(L:List St)(S:List D3)(hk:bk L=true)(hm:S.length≤6):(dJ L S).2≤4826809:=by
 have h1:=xX (fH (dB L S) (L.map (·.1)) S.length []) ([],0);have h2:=nj (dB L S) (L.map (·.1)) (by rw[List.length_map];exact(eu hk).1) S.length [];have h3:13 ^ S.length≤13 ^ 6:=Nat.pow_le_pow_right (by omega) hm;have h4:(13:Nat) ^ 6=4826809:=by decide
 unfold dJ;rw[h4]at h3;exact Nat.le_trans h1 (by show 0+_≤_;omega)
theorem iI{w':World}{B:Nat}{L:List St}{S:List D3}{k:Int}(h:dw L S=[]∧gQ L S=0∧eX L S=k):IY w' B (dw L S) (gQ L S) (eX L S) (.returned (.agg #[.slice none 0 0,J Z 0,J Z k])):=by
 rw[h.1,h.2.1,h.2.2];exact⟨_,rfl,.inl ⟨rfl,rfl⟩⟩
theorem vY(L:List St)(S:List D3)(ar br:Option Addr)(cr dr:Nat)(p:Addr)(w:World)(hn:L.length≤1048576)(hm:S.length≤1048576)(hcr:L.length≤cr)(hc9:cr≤9223372036854775807)(hdr:S.length≤dr)(hd9:dr≤9223372036854775807)(hS:aH w ar L L.length)(hD:bi w br S S.length)(hA:∀y,ar=some y→y.block<w.heap.size)(hB:∀y,br=some y→y.block<w.heap.size)(hE:bm p w):
  Calls Tryz.prog 184 #[.slice ar L.length cr,.slice br S.length dr] w fun e w'=>IY w' w.heap.size (dw L S) (gQ L S) (eX L S) e∧Below w.heap.size w w':=by
 have B0:=ak w (.cells #[.slice none 0 0,J Z 0,J Z 0] 196);by_cases hbig:400<L.length∨400<S.length
 ·have HO:=yz (uI hbig);by_cases h4:400<L.length
  ·have h4':(400:Int)<(L.length:Int):=by omega
   go_enter Tryz.func184,Tryz.ntmps184;go_wp2;exact bodyPost_ret (v:=.agg #[.slice none 0 0,J Z 0,J Z 2]) (by simp[results,Tryz.results184,go_sem]) rfl ⟨iI (yx HO),ak _ _⟩
  ·have h4':¬(400:Int)<(L.length:Int):=by omega
   have h5':(400:Int)<(S.length:Int):=by omega
   go_enter Tryz.func184,Tryz.ntmps184;go_wp2;exact bodyPost_ret (v:=.agg #[.slice none 0 0,J Z 0,J Z 2]) (by simp[results,Tryz.results184,go_sem]) rfl ⟨iI (yx HO),ak _ _⟩
 have h4':¬(400:Int)<(L.length:Int):=by omega
 have h5':¬(400:Int)<(S.length:Int):=by omega
 have R0:IdO (w.alloc (.cells #[.slice none 0 0,J Z 0,J Z 0] 196)) w.heap.size (.slice none 0 0) 0 0:=by refine⟨?_,?_,?_⟩<;>simp
 have F0:iK (w.alloc (.cells #[.slice none 0 0,J Z 0,J Z 0] 196)) w.heap.size:=fun i=>by simp
 have hsz:w.heap.size+1≤(w.alloc (.cells #[.slice none 0 0,J Z 0,J Z 0] 196)).heap.size:=by simp
 have cS:=yz (fun (W:World) h h2=>gE L ar cr p W hn hcr hc9 h h2);have HE:=yz (hE.kept B0);have cD:=yz (fun (W:World) h=>ft S br dr W hm hdr hd9 h);have HB:=yz B0;have HR:=yz R0;have HF:=yz F0;have HS:=yz (hS.kept B0);have HD:=yz (hD.kept B0);clear B0 R0 F0 hS hD hE;go_enter Tryz.func184,Tryz.ntmps184;go_wp2_with fail;generalize hW:w.alloc (.cells #[.slice none 0 0,J Z 0,J Z 0] 196)=W at *;clear hW;refine(yx cS _ (yx HS) (yx HE)).mono ?_;rintro e w1 ⟨rfl,hx⟩;have B1:=aA HB hx;have R1:=an HR hx;have F1:=yz ((yx HF).kept (by omega) hx);have S1:=an HS hx;have D1:=an HD hx;have hsz1:w.heap.size+1≤w1.heap.size:=Nat.le_trans hsz hx.size;clear hx HB HR HF HS HD hsz cS;cases hk:bk L
 ·have HO:=yz (rM hbig (by unfold qf;rw[hk];rfl));obtain⟨r0,r1,r2⟩:=yx R1;have f0:=yx F1 0;have f1:=yx F1 1;have f2:=yx F1 2;go_wp2_with fail;clear r0 r1 r2 f0 f1 f2;exact bodyPost_ret (v:=.agg #[.slice none 0 0,J Z 0,J Z 1]) (jS _ _ w.heap.size _ 0 1 rfl (ji (yx R1) _ _ _)) rfl ⟨iI (yx HO),((((yx B1).setCell (Nat.le_refl _) _).setCell (Nat.le_refl _) _).setCell (Nat.le_refl _) _)⟩
 go_wp2_with fail;refine(yx cD _ (yx D1)).mono ?_;rintro e w2 ⟨rfl,hx⟩;have B2:=aA B1 hx;have R2:=an R1 hx;have F2:=yz ((yx F1).kept (by omega) hx);have S2:=an S1 hx;have D2:=an D1 hx;have hsz2:w.heap.size+1≤w2.heap.size:=Nat.le_trans hsz1 hx.size;clear hx B1 R1 F1 S1 D1 hsz1 cD;cases hp:aL S
 ·have HO:=yz (rM hbig (by unfold qf;rw[hp,Bool.and_false]));obtain⟨r0,r1,r2⟩:=yx R2;have f0:=yx F2 0;have f1:=yx F2 1;have f2:=yx F2 2;go_wp2_with fail;clear r0 r1 r2 f0 f1 f2;exact bodyPost_ret (v:=.agg #[.slice none 0 0,J Z 0,J Z 1]) (jS _ _ w.heap.size _ 0 1 rfl (ji (yx R2) _ _ _)) rfl ⟨iI (yx HO),((((yx B2).setCell (Nat.le_refl _) _).setCell (Nat.le_refl _) _).setCell (Nat.le_refl _) _)⟩
 have HO:=yz (lR hbig (by unfold qf;rw[hk,hp];rfl));have hs6:S.length≤6:=(bK hp).1;have hgb:=Df L S hk hs6;clear hp;go_wp2_with fail;refine(yv L S ar br cr dr w2).mono ?_;rintro e w3 ⟨rfl,p1,p2,hx⟩;have B3:=aA B2 hx;have R3:=an R2 hx;have F3:=yz ((yx F2).kept (by omega) hx);have S3:=an S2 hx;have D3':=an D2 hx;have hsz3:w.heap.size+1≤w3.heap.size:=Nat.le_trans hsz2 hx.size;have cG:=yz ((callsIn_wide (n:=0)).1 (vX L S ar br cr dr w2.heap.size (w2.heap.size+1) w3 hk hs6 p1 p2 (yx S3) (yx D3') (fun y e=>by have:=hA y e;omega) (fun y e=>by have:=hB y e;omega) 0));clear p1 p2 hx B2 R2 F2 S2 D2 hk;go_wp2_with fail;refine(yx cG).mono ?_;rintro e w4 ⟨⟨v,rfl,hv⟩,hx,hl6⟩;have B4:=aA B3 hx;have R4:=an R3 hx;have F4:=yz ((yx F3).kept (by omega) hx);have hsz4:w.heap.size+1≤w4.heap.size:=Nat.le_trans hsz3 hx.size;have HV:=yz hv;clear hx hv B3 R3 F3 S3 D3' cG;rw[aq (n:=((dJ L S).2:Int)) (by omega) (by omega)];have HG:=yz (mN L S);obtain⟨Gi,hGi⟩:∃G,(dJ L S)=G:=⟨_,rfl⟩
 rw[hGi]at HV HG hgb hl6 ⊢;clear hGi;obtain⟨gi,ga⟩:=Gi;dsimp only at HV HG hgb hl6 ⊢;obtain⟨r0,r1,r2⟩:=yx R4;have f0:=yx F4 0;have f1:=yx F4 1;have f2:=yx F4 2;by_cases c0:ga=0
 ·have c0':(ga:Int)=0:=by omega
  go_wp2_with fail;clear r0 r1 r2 f0 f1 f2;have h8:dw L S=[]∧gQ L S=0∧eX L S=6:=⟨by rw[(yx HO).1,(yx HG).1,if_neg (by omega)],by rw[(yx HO).2.1,(yx HG).2.1,if_neg (by omega)],by rw[(yx HO).2.2,(yx HG).2.2,if_pos c0]⟩
  exact bodyPost_ret (v:=.agg #[.slice none 0 0,J Z 0,J Z 6]) (jS _ _ w.heap.size _ 0 6 rfl (ji (yx R4) _ _ _)) rfl ⟨iI h8,((((yx B4).setCell (Nat.le_refl _) _).setCell (Nat.le_refl _) _).setCell (Nat.le_refl _) _)⟩
 have c0':¬(ga:Int)=0:=by omega
 by_cases c1:1<ga
 ·have c1':(1:Int)<(ga:Int):=by omega
  go_wp2_with fail;clear r0 r1 r2 f0 f1 f2;have h8:dw L S=[]∧gQ L S=0∧eX L S=11:=⟨by rw[(yx HO).1,(yx HG).1,if_neg (by omega)],by rw[(yx HO).2.1,(yx HG).2.1,if_neg (by omega)],by rw[(yx HO).2.2,(yx HG).2.2,if_neg c0,if_pos c1]⟩
  exact bodyPost_ret (v:=.agg #[.slice none 0 0,J Z 0,J Z 11]) (jS _ _ w.heap.size _ 0 11 rfl (ji (yx R4) _ _ _)) rfl ⟨iI h8,((((yx B4).setCell (Nat.le_refl _) _).setCell (Nat.le_refl _) _).setCell (Nat.le_refl _) _)⟩
 have c1':¬(1:Int)<(ga:Int):=by omega
 have hga:ga=1:=by omega
 have h8:dw L S=gi∧gQ L S=(aQ gi:Int)∧eX L S=0:=⟨by rw[(yx HO).1,(yx HG).1,if_pos hga],by rw[(yx HO).2.1,(yx HG).2.1,if_pos hga],by rw[(yx HO).2.2,(yx HG).2.2,if_neg c0,if_neg c1]⟩
 obtain⟨va,vc,rfl,hnm⟩:∃a c,v=.slice a gi.length c∧ij w4 a gi gi.length:=by
  rcases yx HV with ⟨e1,e2⟩ | ⟨g,e,_,hr⟩
  ·exact⟨none,0,by rw[e1,e2];rfl,.inl (by rw[e1];rfl)⟩
  ·exact⟨_,_,e,nN hr⟩
 have cN:=yz (gz gi va vc w4 (by omega) hnm);clear hnm;go_wp2_with fail;refine(yx cN).mono ?_;rintro e w5 ⟨rfl,hw5⟩;subst hw5;go_wp2_with fail;clear r0 r1 r2 f0 f1 f2;rw[h8.1,h8.2.1,h8.2.2];refine bodyPost_ret (v:=.agg #[.slice va gi.length vc,J Z (aQ gi:Int),J Z 0]) (jS _ _ w.heap.size _ (aQ gi:Int) 0 rfl (ji (yx R4) _ _ _)) rfl ⟨⟨_,rfl,?_⟩,((((yx B4).setCell (Nat.le_refl _) _).setCell (Nat.le_refl _) _).setCell (Nat.le_refl _) _)⟩;rcases yx HV with h | ⟨g,e,hg,hr⟩
 ·exact .inl h
 ·have hne:g≠w.heap.size:=by omega
  exact .inr ⟨g,e,by omega,sI (sI (sI hr hne 0 _) hne 1 _) hne 2 _⟩
end
section
open Go.RowKit Go.Sort
theorem lH(F:List Int→Int→Bool)(A:List Int):∀(r:Nat) (ids l:List Int),l∈fH F A r ids→l.length=ids.length+r
 | 0,ids,l,h=>by
  simp only[fH,List.mem_singleton]at h;subst h;omega
 | r+1,ids,l,h=>by
  simp only[fH,List.mem_append,List.mem_flatMap]at h;rcases h with ⟨a,_,h⟩ | h
  ·have:=lH F A r _ l h;rw[List.length_append]at this;simp at this;omega
  ·have:=lH F A r _ l h;rw[List.length_append]at this;simp at this;omega
theorem rz(m:Nat):∀(X:List (List Int)) (g:List Int×Nat),(∀l∈X,l.length≤m)→g.1.length≤m→(X.foldl dz g).1.length≤m
 | [],g,_,h=>h
 | x :: X,g,hX,h=>by
  rw[List.foldl_cons];refine rz m X _ (fun l hl=>hX l (List.mem_cons_of_mem _ hl)) ?_;unfold dz;split
  ·exact h
  ·split
   ·exact hX x (List.mem_cons_self ..)
   ·exact h
theorem rL(L:List St)(S:List D3):(dw L S).length≤6:=by
 by_cases hb:400<L.length∨400<S.length
 ·rw[(uI hb).1];simp
 ·cases ho:qf L S
  ·rw[(rM hb ho).1];simp
  ·rw[(lR hb ho).1,(mN L S).1];have hp:aL S=true:=by unfold qf at ho;simp at ho;exact ho.2
   have h6:=(bK hp).1;split
   ·refine Nat.le_trans (rz S.length _ _ (fun l hl=>?_) (by simp)) h6;have:=lH _ _ _ _ _ hl;simp at this;omega
   ·simp
theorem eJ.sliceI{w:World}{t:TypeId}{c lo hi n:Nat}{v:Value}{f:Nat→Value}(h:eJ w t c lo hi n v f):∃a k,v=.slice a n k:=by
 rcases h with ⟨rfl,a,k,rfl⟩ | ⟨g,k,rfl,_⟩
 ·exact⟨a,k,rfl⟩
 ·exact⟨_,k,rfl⟩
theorem DM{w':World}{B:Nat}{ids:List Int}{cnt code:Int}{e:Ending}(h:IX w' B ids cnt code e):∃a k,e=.returned (.agg #[.slice a ids.length k,.int .i64 cnt,.int .i64 code])∧eJ w' 2 1 B w'.heap.size ids.length (.slice a ids.length k) (vE (fun j=>ids.getD j 0) (fun _=>false)):=by
 obtain⟨v,he,ho⟩:=h
 have hp:eJ w' 2 1 B w'.heap.size ids.length v (vE (fun j=>ids.getD j 0) (fun _=>false)):=eJ.of ho (fun j h=>by
  have h':j<ids.length:=by omega
  show (ids.map (fun z=>Value.int .i64 z))[j]? = some (.int .i64 (ids.getD j 0));rw[List.getElem?_map,List.getElem?_eq_getElem h',List.getD_eq_getElem?_getD,List.getElem?_eq_getElem h']
  rfl)
 obtain⟨a,k,rfl⟩:=hp.sliceI;exact⟨a,k,he,hp⟩
end
section
open Go.RowKit
def dW(t:T4)(s:Sg):Bool:=bS s.1 (apD t.1 t.2.1 t.2.2.1 t.2.2.2 s.2.2)
def dI(A:List Sg)(t:T4):Bool:=A.all (dW t)
theorem EM{A:List Sg}{t:T4}(h:∀i,i<A.length→dW t (sgA A i)=true):dI A t=true:=by
 unfold dI;rw[←jZ,List.all_eq_true];exact fun i hi=>h i (List.mem_range.1 hi)
variable {ids:List Int} {i k:Nat}
theorem Hj{A:List Sg}{t:T4}(hi:i<A.length)(h:dW t (sgA A i)=false):dI A t=false:=by
 unfold dI;rw[←jZ,List.all_eq_false];exact⟨i,List.mem_range.2 hi,by rw[h];simp⟩
def fZ(A:List Sg)(T:List T4):T4×Int:=match T.find? (dI A) with | some t=>(t,0) | none=>((0,0,0,0),6)
theorem AN{T:List T4}(hk:k<T.length):T[k]? = some (tA T k):=by unfold tA;rw[List.getD_eq_getElem?_getD,List.getElem?_eq_getElem hk];rfl
theorem xV{A:List Sg}{T:List T4}(hk:k<T.length)(h:∀j,j<k→dI A (tA T j)=false)(h1:dI A (tA T k)=true):fZ A T=(tA T k,0):=by
 unfold fZ
 have:T.find? (dI A)=some (tA T k):=by
  rw[List.find?_eq_some_iff_getElem];refine⟨h1,k,hk,?_,fun j hj=>?_⟩
  ·have:=AN hk;rw[List.getElem?_eq_getElem hk]at this;exact Option.some.inj this
  ·have e:=AN (T:=T) (k:=j) (by omega);rw[List.getElem?_eq_getElem (by omega)]at e;rw[Option.some.inj e,h j hj];rfl
 rw[this]
theorem rp{A:List Sg}{T:List T4}(h:∀j,j<T.length→dI A (tA T j)=false):fZ A T=((0,0,0,0),6):=by
 unfold fZ
 have:T.find? (dI A)=none:=by
  rw[List.find?_eq_none];intro x hx;obtain⟨j,hj,rfl⟩:=List.getElem_of_mem hx;have e:=AN (T:=T) (k:=j) hj;rw[List.getElem?_eq_getElem hj]at e;rw[Option.some.inj e,h j hj];simp
 rw[this]
def kl(L:List St)(S:List D3)(ids:List Int):T4×Int:=
 if 400<L.length∨400<S.length∨400<ids.length then ((0,0,0,0),2)
 else if bN L S ids=true then (if (au L S ids ids.length).length<2 then ((0,0,0,0),10) else fZ (au L S ids ids.length) (az 625))
 else ((0,0,0,0),1)
theorem ER{L:List St}{S:List D3}(h:400<L.length∨400<S.length∨400<ids.length):kl L S ids=((0,0,0,0),2):=by unfold kl;rw[if_pos h]
theorem EQ{L:List St}{S:List D3}(h:¬(400<L.length∨400<S.length∨400<ids.length))(h1:bN L S ids=false):kl L S ids=((0,0,0,0),1):=by unfold kl;rw[if_neg h,h1];rfl
theorem Hm{L:List St}{S:List D3}(h:¬(400<L.length∨400<S.length∨400<ids.length))(h1:bN L S ids=true)(h2:(au L S ids ids.length).length<2):kl L S ids=((0,0,0,0),10):=by unfold kl;rw[if_neg h,if_pos h1,if_pos h2]
theorem CO{L:List St}{S:List D3}(h:¬(400<L.length∨400<S.length∨400<ids.length))(h1:bN L S ids=true)(h2:¬(au L S ids ids.length).length<2):kl L S ids=fZ (au L S ids ids.length) (az 625):=by unfold kl;rw[if_neg h,if_pos h1,if_neg h2]
theorem gq{L:List St}{S:List D3}(h:bN L S ids=true):bk L=true∧aL S=true∧ids.length=S.length∧fd (au L S ids ids.length) (au L S ids ids.length).length=true:=by
 unfold bN at h;simp only[Bool.and_eq_true,decide_eq_true_eq]at h;exact⟨h.1.1.1,h.1.1.2,h.1.2,h.2⟩
theorem DS{L:List St}{S:List D3}{n:Nat}(hi:i<(au L S ids n).length):∃j,j<n∧ids.getD j 0≠0∧sgA (au L S ids n) i=bY L S ids j:=by
 have hm:sgA (au L S ids n) i∈au L S ids n:=by
  unfold sgA;rw[List.getD_eq_getElem?_getD,List.getElem?_eq_getElem hi];exact List.getElem_mem hi
 generalize sgA (au L S ids n) i=s at hm ⊢;unfold au at hm;rw[List.mem_map]at hm;obtain⟨j,hj,rfl⟩:=hm;rw[List.mem_filter]at hj;exact⟨j,List.mem_range.1 hj.1,of_decide_eq_true hj.2,rfl⟩
theorem yV{L:List St}{S:List D3}(h:bN L S ids=true){i:Nat}(hi:i<(au L S ids ids.length).length):aN (sgA (au L S ids ids.length) i).2.2.1 (sgA (au L S ids ids.length) i).2.2.2.1 (sgA (au L S ids ids.length) i).2.2.2.2=true:=by
 obtain⟨h1,h2,h3,h4⟩:=gq h;unfold fd at h4;have h5:=List.all_eq_true.1 h4 i (List.mem_range.2 hi);rw[Bool.and_eq_true]at h5;obtain⟨j,hj,h0,e⟩:=DS hi;rw[e]at h5 ⊢;exact xD h1 (by have h6:=h5.1;rw[Bool.not_eq_true']at h6;exact h6)
theorem Ao{L:List St}{S:List D3}(h:bN L S ids=true){j:Nat}(hj:j<ids.length)(h0:ids.getD j 0≠0):aN (atV L L.length (ids.getD j 0)).1 (atV L L.length (ids.getD j 0)).2.1 (atV L L.length (ids.getD j 0)).2.2=true∧jY (vA S j)=true:=by
 obtain⟨h1,h2,h3,h4⟩:=gq h;rw[←sd]at h4;unfold im at h4;have h5:=List.all_eq_true.1 h4 j (List.mem_range.2 hj);rw[decide_eq_false h0,Bool.false_or,Bool.and_eq_true]at h5;exact⟨xD h1 (by simpa using h5.1),lq ((bK h2).2 j (by omega))⟩
def iE(L:List St)(S:List D3)(ids:List Int)(t:T4)(n:Nat):Bool:=(List.range n).all fun j=>decide (ids.getD j 0=0) || dW t (bY L S ids j)
theorem Ek(L:List St)(S:List D3)(ids:List Int)(t:T4)(n:Nat):iE L S ids t n=dI (au L S ids n) t:=(mZ L S ids (dW t) n).symm
theorem Bg{L:List St}{S:List D3}{t:T4}{n j:Nat}(hj:j<n)(h:(decide (ids.getD j 0=0) || dW t (bY L S ids j))=false):iE L S ids t n=false:=by
 unfold iE;rw[List.all_eq_false];exact⟨j,List.mem_range.2 hj,by rw[h];simp⟩
theorem zx{L:List St}{S:List D3}{t:T4}{n:Nat}(h:∀j,j<n→(decide (ids.getD j 0=0) || dW t (bY L S ids j))=true):iE L S ids t n=true:=by
 unfold iE;rw[List.all_eq_true];exact fun j hj=>h j (List.mem_range.1 hj)
theorem wZ(L:List St)(S:List D3)(ids:List Int)(k:Nat):(au L S ids (k+1)).length=(au L S ids k).length+if ids.getD k 0≠0 then 1 else 0:=by
 rw[gr,List.length_append];split<;>rfl
theorem pX{m:Nat}(hk:k<(az m).length):aE (tA (az m) k).1 (tA (az m) k).2.1 (tA (az m) k).2.2.1 (tA (az m) k).2.2.2=true:=by
 have hm:tA (az m) k∈az m:=by unfold tA;rw[List.getD_eq_getElem?_getD,List.getElem?_eq_getElem hk];exact List.getElem_mem hk
 generalize tA (az m) k=t at hm ⊢;unfold az at hm;exact(List.mem_filter.1 hm).2
theorem tk:0<(az 625).length:=by
 have h:(tOf 624).1=2:=by decide +kernel
 have hg:pE (tOf 563)=true:=by decide +kernel
 have hm:tOf 563∈az 625:=by
  unfold az;rw[List.mem_filter];exact⟨List.mem_map.2 ⟨563,List.mem_range.2 (by omega),rfl⟩,hg⟩
 exact List.length_pos_of_mem hm
end
section
open Go.Value renaming int → J
open Go.IntKind renaming i64 → Z
open Go.RowKit Go.Sort
variable {a b c d:Int}
theorem qH(h:(inT 1000 a b c d && !je a b c d)=false):Value.agg #[J Z (ofP a b c d a),J Z (ofP a b c d b),J Z (ofP a b c d c),J Z (ofP a b c d d),J Z (ofC a b c d)]=Value.agg #[J Z 0,J Z 0,J Z 0,J Z 0,J Z 1]:=by
 unfold ofP;rw[FA h];rfl
theorem wM(h1:inT 1000 a b c d=true)(h2:je a b c d=false)(h:aE (a.tdiv (sT a b c d)) (b.tdiv (sT a b c d)) (c.tdiv (sT a b c d)) (d.tdiv (sT a b c d))=false):Value.agg #[J Z (ofP a b c d a),J Z (ofP a b c d b),J Z (ofP a b c d c),J Z (ofP a b c d d),J Z (ofC a b c d)]=Value.agg #[J Z 0,J Z 0,J Z 0,J Z 0,J Z 9]:=by
 have e:ofC a b c d=9:=by unfold ofC;rw[h1,h2,h];rfl
 unfold ofP;rw[e];rfl
theorem FB(h1:inT 1000 a b c d=true)(h2:je a b c d=false)(h:aE (a.tdiv (sT a b c d)) (b.tdiv (sT a b c d)) (c.tdiv (sT a b c d)) (d.tdiv (sT a b c d))=true):Value.agg #[J Z (ofP a b c d a),J Z (ofP a b c d b),J Z (ofP a b c d c),J Z (ofP a b c d d),J Z (ofC a b c d)]=Value.agg #[J Z (a.tdiv (sT a b c d)),J Z (b.tdiv (sT a b c d)),J Z (c.tdiv (sT a b c d)),J Z (d.tdiv (sT a b c d)),J Z 0]:=by
 have e:ofC a b c d=0:=by unfold ofC;rw[h1,h2,h];rfl
 unfold ofP;rw[e];rfl
theorem AY(a b c d:Int)(w:World):
  Calls Tryz.prog 181 #[J Z a,J Z b,J Z c,J Z d] w fun e w'=>e=.returned (.agg #[J Z (ofP a b c d a),J Z (ofP a b c d b),J Z (ofP a b c d c),J Z (ofP a b c d d),J Z (ofC a b c d)])∧Below w.heap.size w w':=by
 have he:=fun w=>fO a b c d 0 0 0 0 w;cases hz:eqT a b c d 0 0 0 0
 ·rw[hz]at he;have HZ:=yz (show je a b c d=false from hz);clear hz;go_enter Tryz.func181,Tryz.ntmps181;go_wp2_with fail;refine(lC 1000 a b c d _ (by omega) (by omega)).mono ?_;rintro e w1 ⟨rfl,hB1⟩;have vr:hH w1 w.heap.size 0 0 0 0 0:=((gV w 0 0 0 0 0 _).alloc _).kept hB1;have fr:kH w1 w.heap.size:=((jJ w 0 0 0 0 0 _).kept (by simp) (ak _ _)).kept (by simp;omega) hB1;have va:bd w1 (w.heap.size+1) a b c d:=(by simpa using bh (w.alloc _) a b c d _:bd _ (w.heap.size+1) a b c d).kept (by simp) hB1;have hB:Below w.heap.size w w1:=aj (aF _ _ _) hB1;clear hB1 he;cases hi:inT 1000 a b c d
  ·have HR:=yz (qH (a:=a) (b:=b) (c:=c) (d:=d) (by rw[hi];rfl));obtain⟨cr0,cr1,cr2,cr3,cr4⟩:=vr;obtain⟨fr0,fr1,fr2,fr3,fr4⟩:=fr;go_wp2_with fail;exact bodyPost_ret (v:=.agg #[J Z 0,J Z 0,J Z 0,J Z 0,J Z 1]) (by simp[results,Tryz.results181,go_sem,cr0,cr1,cr2,cr3,cr4]) rfl ⟨by rw[yx HR],ck hB (by omega) _ _ _ _ _⟩
  ·have hva:=va;obtain⟨ca0,ca1,ca2,ca3⟩:=va;go_wp2_with fail;refine(pQ a b c d _ hi (lG (yx HZ))).mono ?_;rintro e w2 ⟨rfl,hB2⟩;have hlt:=vr.lt;replace vr:=vr.kept hB2;replace fr:=fr.kept hlt hB2;replace hB:=aj hB hB2;clear hB2 hva ca0 ca1 ca2 ca3;cases hr:aE (a.tdiv (sT a b c d)) (b.tdiv (sT a b c d)) (c.tdiv (sT a b c d)) (d.tdiv (sT a b c d))
   ·have HR:=yz (wM hi (yx HZ) hr);generalize a.tdiv (sT a b c d)=p at hr ⊢;generalize b.tdiv (sT a b c d)=q at hr ⊢;generalize c.tdiv (sT a b c d)=r at hr ⊢;generalize d.tdiv (sT a b c d)=s at hr ⊢;have vr1:=vr.alloc (.cells #[J Z p,J Z q,J Z r,J Z s] 35);have fr1:=fr.kept vr.lt (ak w2 (.cells #[J Z p,J Z q,J Z r,J Z s] 35));have hB1:=hB.alloc (Nat.le_of_lt (vr.lt)) (.cells #[J Z p,J Z q,J Z r,J Z s] 35);go_wp2_with fail;refine(bO p q r s _).mono ?_;rintro e w3 ⟨rfl,hB3⟩;rw[hr];have hlt:=vr1.lt;replace vr:=vr1.kept hB3;replace fr:=fr1.kept hlt hB3;replace hB:=aj hB1 hB3;clear hB3 vr1 fr1 hB1;obtain⟨cr0,cr1,cr2,cr3,cr4⟩:=vr;obtain⟨fr0,fr1,fr2,fr3,fr4⟩:=fr;go_wp2_with fail;exact bodyPost_ret (v:=.agg #[J Z 0,J Z 0,J Z 0,J Z 0,J Z 9]) (by simp[results,Tryz.results181,go_sem,cr0,cr1,cr2,cr3,cr4]) rfl ⟨by rw[yx HR],ck hB (by omega) _ _ _ _ _⟩
   ·have HR:=yz (FB hi (yx HZ) hr);generalize a.tdiv (sT a b c d)=p at hr HR ⊢;generalize b.tdiv (sT a b c d)=q at hr HR ⊢;generalize c.tdiv (sT a b c d)=r at hr HR ⊢;generalize d.tdiv (sT a b c d)=s at hr HR ⊢;have vr1:=vr.alloc (.cells #[J Z p,J Z q,J Z r,J Z s] 35);have fr1:=fr.kept vr.lt (ak w2 (.cells #[J Z p,J Z q,J Z r,J Z s] 35));have vt1:=bh w2 p q r s 35;have hB1:=hB.alloc (Nat.le_of_lt (vr.lt)) (.cells #[J Z p,J Z q,J Z r,J Z s] 35);go_wp2_with fail;refine(bO p q r s _).mono ?_;rintro e w3 ⟨rfl,hB3⟩;rw[hr];have hlt:=vr1.lt;replace vr:=vr1.kept hB3;replace fr:=fr1.kept hlt hB3;have vt:=vt1.kept vt1.lt hB3;replace hB:=aj hB1 hB3;clear hB3 vr1 fr1 hB1 vt1;obtain⟨cr0,cr1,cr2,cr3,cr4⟩:=vr;obtain⟨fr0,fr1,fr2,fr3,fr4⟩:=fr;obtain⟨ct0,ct1,ct2,ct3⟩:=vt;go_wp2_with fail;exact bodyPost_ret (v:=.agg #[J Z p,J Z q,J Z r,J Z s,J Z 0]) (by simp[results,Tryz.results181,go_sem,cr0,cr1,cr2,cr3,cr4]) rfl ⟨by rw[yx HR],ck hB (by omega) _ _ _ _ _⟩
 ·rw[hz]at he;have HR:=yz (qH (a:=a) (b:=b) (c:=c) (d:=d) (by rw[show je a b c d=true from hz];simp));go_enter Tryz.func181,Tryz.ntmps181;go_wp2_with fail;exact bodyPost_ret (v:=.agg #[J Z 0,J Z 0,J Z 0,J Z 0,J Z 1]) (by simp[results,Tryz.results181,go_sem]) rfl ⟨by rw[yx HR],aF _ _ _⟩
end
end Go.Proofs.YteoonaanoenjiaaGreatDoor
