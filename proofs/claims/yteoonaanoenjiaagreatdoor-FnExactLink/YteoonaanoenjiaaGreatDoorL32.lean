/- Several texts in one: BlC, LnW. -/
import Derived.Test.YteoonaanoenjiaaGreatDoorL29
import Derived.Test.YteoonaanoenjiaaGreatDoorL30
namespace Go.Proofs.YteoonaanoenjiaaGreatDoor
set_option linter.unusedVariables false
set_option linter.unusedSimpArgs false
set_option maxRecDepth 100000
set_option maxHeartbeats 8000000
section
open Go.Value renaming int → J
open Go.IntKind renaming i64 → Z
open Go.RowKit Go.Sort
theorem uJ:(Tryz.prog.info? 163).map (fun i=>(i.zero,i.size,i.bytes))=some (some (.agg #[J Z 0,J Z 0,J Z 0,J Z 0,.bool false]),5,40):=by kernel_rfl
theorem Di:(Tryz.prog.info? 4).map (fun i=>(i.zero,i.size,i.bytes))=some (some (.bool false),1,1):=by kernel_rfl
theorem Et(n:Nat)(h:n≤281474976710656):∃M:Array Value,(∀j,j<n→M[j]? = some (.bool false))∧∀W:World,(Instr.makeSlice 200 (J Z (n:Int)) (J Z (n:Int))).run Tryz.prog W=.ok (.slice (some ⟨W.heap.size,0,none⟩) n n) (W.alloc (.cells M 4)):=by
 obtain⟨i0,hi,hz0,hz1,hz2⟩:=info_parts Di;refine⟨madeCells (Value.bool false).cells (((n:Nat):Int).toNat*i0.size),fun j hj=>?_,fun W=>?_⟩
 ·rw[hz1,←Array.getElem?_toList];have e:(Value.bool false).cells = #[.bool false]:=rfl;rw[e,toList_madeCells_one];simp[hj]
 ·have h:=run_make (P:=Tryz.prog) W 200 4 i0 (.bool false) Tryz.underlying200 hi hz0 .i64 .i64 (n:Int) (n:Int) (by omega) (by omega) (by rw[hz2];omega) (by omega);simpa using h
def eZ(S:List Bl):List Value:=S.flatMap it
theorem uz(A B:List Bl):eZ (A ++ B)=eZ A ++ eZ B:=by unfold eZ;rw[List.flatMap_append]
variable {s:ByteArray} {xs:List Value} {fb m ob sb xb:Nat} {T1:Nat→Bool} {t:TypeId} {v:Value} {w wx wy:World}
theorem rr{S:List Bl}(h:v∈eZ S):v.oneCell'=true:=by
 unfold eZ at h;rw[List.mem_flatMap]at h;obtain⟨p,_,hp⟩:=h;simp[it]at hp;rcases hp with rfl | rfl | rfl | rfl | rfl<;>rfl
def rV(lv:Int):Bool:=decide (0≤lv)&&decide (lv≤255)
def okB(wd ht:Int)(s:ByteArray)(lv:Int):Bool:=di wd ht s&&rV lv
def tw(wd ht:Int)(s:ByteArray)(lv:Int):List Bl:=(aP (ic wd.toNat ht.toNat s lv) s.size).2
def kR(wd ht:Int)(s:ByteArray)(lv:Int):List Bl:=if okB wd ht s lv=true then (if (tw wd ht s lv).length≤8 then tw wd ht s lv else []) else []
def mw(wd ht:Int)(s:ByteArray)(lv:Int):Int:=if okB wd ht s lv=true then (if (tw wd ht s lv).length≤8 then 0 else 9) else 1
theorem qL{wd ht:Int}{lv:Int}(h:okB wd ht s lv=false):kR wd ht s lv=[]∧mw wd ht s lv=1:=by unfold kR mw;rw[h];exact⟨rfl,rfl⟩
theorem vi{wd ht:Int}{lv:Int}(h:okB wd ht s lv=true)(h2:¬(tw wd ht s lv).length≤8):kR wd ht s lv=[]∧mw wd ht s lv=9:=by unfold kR mw;rw[if_pos h,if_pos h,if_neg h2,if_neg h2];exact⟨rfl,rfl⟩
theorem yP{wd ht:Int}{lv:Int}(h:okB wd ht s lv=true)(h2:(tw wd ht s lv).length≤8):kR wd ht s lv=tw wd ht s lv∧mw wd ht s lv=0:=by unfold kR mw;rw[if_pos h,if_pos h,if_pos h2,if_pos h2];exact⟨rfl,rfl⟩
structure gx (w wx:World) (fb ob xb sb:Nat) (wd ht:Nat) (s:ByteArray) (lv:Int) (T1:Nat→Bool):Prop where
 seen:gy wx sb s.size T1
 look:kU wx xb wd ht s lv sb s.size
 fr:Blk wx fb [J Z wd,J Z ht,.string s] 43
 res:Blk wx ob [.slice none 0 0,J Z 0] 160
 bel:Below w.heap.size w wx
theorem gx.kept{wd ht:Nat}{lv:Int}(h:gx w wx fb ob xb sb wd ht s lv T1)(hB:Below wx.heap.size wx wy):gx w wy fb ob xb sb wd ht s lv T1:=
 ⟨bI.kept h.seen hB,Blk.kept h.look hB,h.fr.kept hB,h.res.kept hB,aj h.bel hB⟩
theorem gx.byRow{wd ht:Nat}{lv:Int}{row:Option Nat}{lo:Nat}(h:gx w wx fb ob xb sb wd ht s lv T1)(hg:wx.grownBy wy row)(hr:∀g,row=some g→lo≤g)(h1:fb<lo)(h2:ob<lo)(h3:xb<lo)(h4:sb<lo)(h5:w.heap.size≤lo):gx w wy fb ob xb sb wd ht s lv T1:=by
 have ne:∀b,b<lo→some b≠row:=fun b hb e=>by have:=hr b e.symm;omega
 refine⟨bI.grown h.seen hg (ne _ h4),Blk.grown h.look hg (ne _ h3),h.fr.grown hg (ne _ h1),h.res.grown hg (ne _ h2),h.bel.trans ⟨hg.os,hg.tape,hg.output,hg.size,fun k hk=>hg.block k (Nat.lt_of_lt_of_le hk h.bel.size) (ne k (by omega))⟩⟩
theorem gx.seenBy{wd ht:Nat}{lv:Int}{T2:Nat→Bool}(h:gx w wx fb ob xb sb wd ht s lv T1)(hg:wx.grownBy wy (some sb))(hs:gy wy sb s.size T2)(h1:fb≠sb)(h2:ob≠sb)(h3:xb≠sb)(h5:w.heap.size≤sb):gx w wy fb ob xb sb wd ht s lv T2:=
 ⟨hs,Blk.grown h.look hg (fun e=>h3 (Option.some.inj e)),h.fr.grown hg (fun e=>h1 (Option.some.inj e)),h.res.grown hg (fun e=>h2 (Option.some.inj e)),h.bel.trans ⟨hg.os,hg.tape,hg.output,hg.size,fun k hk=>hg.block k (Nat.lt_of_lt_of_le hk h.bel.size) (fun e=>by have:=Option.some.inj e;omega)⟩⟩
theorem DG(w:World)(B:Nat)(h:B≤w.heap.size):(w.alloc (.cells #[] 163)).ownsRow B 163 5 (.slice (some ⟨w.heap.size,0,none⟩) 0 0) 0 (eZ []):=
 ⟨rfl,.inr ⟨_,0,#[],rfl,h,Array.getElem?_push_size,Nat.le_refl _,Nat.zero_le _,rfl,rfl⟩⟩
theorem eT{B B' n:Nat}(h:w.ownsRow B t m v n xs)(hb:B'≤B):w.ownsRow B' t m v n xs:=by
 obtain⟨h1,h2⟩:=h;refine⟨h1,?_⟩;rcases h2 with h2 | ⟨g,cap,cur,e,hg,r⟩
 ·exact .inl h2
 ·exact .inr ⟨g,cap,cur,e,by omega,r⟩
theorem yI{B n:Nat}(h:w.ownsRow B t m v n xs)(b:Nat)(hne:∀z,v.ownBlock=some z→z≠b)(x y:Value):((w.setCell ⟨b,0,none⟩ x).setCell ⟨b,1,none⟩ y).ownsRow B t m v n xs:=by
 have hg:∀(w:World) (i:Nat) (x:Value),w.grownBy (w.setCell ⟨b,i,none⟩ x) (some b):=fun w i x=>⟨rfl,rfl,rfl,by simp[World.setCell],fun k _ hk=>Below.heap_setCell _ _ _ _ (fun e=>hk (by rw[e]))⟩
 have ho:v.ownBlock=none∨v.ownBlock≠some b:=by
  cases hv:v.ownBlock with
  | none=>exact .inl rfl
  | some z=>exact .inr (fun e=>hne z hv (Option.some.inj e))
 exact(h.kept (hg w 0 x) ho).kept (hg _ 1 y) ho
theorem fk(w:World)(vs:List Value)(t:TypeId):∀(j:Nat) (u:Value),vs[j]? = some u→(w.alloc (.cells vs.toArray t)).cell? ((⟨w.heap.size,0,none⟩:Addr).add j)=some u:=by
 intro j u hj;have e:(⟨w.heap.size,0,none⟩:Addr).add j=⟨w.heap.size,j,none⟩:=by cases j<;>simp[Addr.add]
 rw[e];simp[hj]
theorem qu(wd ht:Int)(s:ByteArray)(lv:Int)(w:World)(hs:s.size≤maxLen):
  Calls Tryz.prog 109 #[.agg #[J Z wd,J Z ht,.string s],J Z lv] w fun e w'=>(∃v,e=.returned (.agg #[v,J Z (mw wd ht s lv)])∧w'.ownsRow w.heap.size 163 5 v (kR wd ht s lv).length (eZ (kR wd ht s lv)))∧Below w.heap.size w w':=by
 have A0:=(ap w [J Z wd,J Z ht,.string s] 43).alloc (.cells #[.slice none 0 0,J Z 0] 160);have R0:=ap (w.alloc (.cells #[J Z wd,J Z ht,.string s] 43)) [.slice none 0 0,J Z 0] 160;have e1:(w.alloc (.cells #[J Z wd,J Z ht,.string s] 43)).heap.size=w.heap.size+1:=by simp
 rw[e1]at R0;have B0:=aF w (.cells #[J Z wd,J Z ht,.string s] 43) (.cells #[.slice none 0 0,J Z 0] 160);clear e1;have cF:=yz (fun W=>gl wd ht s W);go_enter Tryz.func109,Tryz.ntmps109;go_wp2_with fail;generalize (w.alloc (.cells #[J Z wd,J Z ht,.string s] 43)).alloc (.cells #[.slice none 0 0,J Z 0] 160)=W0 at A0 R0 B0 ⊢;obtain⟨ob,hob⟩:∃ob,ob=w.heap.size+1:=⟨_,rfl⟩
 obtain⟨fb,hfb⟩:∃fb,fb=w.heap.size:=⟨_,rfl⟩
 rw[←hob]at R0 ⊢;rw[←hfb]at A0 ⊢;have lfb:w.heap.size≤fb:=by omega
 have lob:w.heap.size≤ob:=by omega
 have lne:fb≠ob:=by omega
 clear hob hfb;refine(yx cF _).mono ?_;rintro e W1 ⟨rfl,hx⟩;have A1:=A0.kept hx;have R1:=R0.kept hx;have B1:=aj B0 hx;clear hx A0 R0 B0;have r0:=R1.cell 0 _ rfl;have r1:=R1.cell 1 _ rfl;have g0:=R1.free 0;have g1:=R1.free 1;cases k1:di wd ht s
 case false=>
  have HV:=yz (qL (wd:=wd) (ht:=ht) (s:=s) (lv:=lv) (by unfold okB;rw[k1];rfl));go_wp2_with fail;rw[(yx HV).1,(yx HV).2];exact bodyPost_ret (v:=.agg #[.slice none 0 0,J Z 1]) (by simp[results,Tryz.results109,go_sem,r0,r1]) rfl ⟨⟨_,rfl,World.ownsRow_nil _ _ _ _⟩,(B1.setCell lob _).setCell lob _⟩
 obtain⟨a0,a1,a2⟩:=eP (A1);go_wp2_with fail;refine(bp lv 0 255 _).mono ?_;rintro e W2 ⟨rfl,hw⟩;rw[hw];clear hw W2;rw[show (decide (0≤lv)&&decide (lv≤255))=rV lv from rfl];cases k2:rV lv
 case false=>
  have HV:=yz (qL (wd:=wd) (ht:=ht) (s:=s) (lv:=lv) (by unfold okB;rw[k1,k2];rfl));go_wp2_with fail;rw[(yx HV).1,(yx HV).2];exact bodyPost_ret (v:=.agg #[.slice none 0 0,J Z 1]) (by simp[results,Tryz.results109,go_sem,r0,r1]) rfl ⟨⟨_,rfl,World.ownsRow_nil _ _ _ _⟩,(B1.setCell lob _).setCell lob _⟩
 have hok:okB wd ht s lv=true:=by unfold okB;rw[k1,k2];rfl
 obtain⟨f1,f2,f3,f4,f5⟩:=gO.1 k1;obtain⟨wn,hwn⟩:=Int.eq_ofNat_of_zero_le (show 0≤wd by omega);obtain⟨hn,hhn⟩:=Int.eq_ofNat_of_zero_le (show 0≤ht by omega);subst hwn hhn
 have hsz:s.size=wn*hn:=by
  have:((s.size:Nat):Int)=((wn*hn:Nat):Int):=by rw[f5];exact(Int.natCast_mul _ _).symm
  omega
 have hn192:s.size≤192:=by have:=Nat.mul_le_mul (show wn≤16 by omega) (show hn≤12 by omega);omega
 have HSZ:=yz hsz;have HOK:=yz hok;clear hsz hok k1 k2 f5 hs;obtain⟨M,hM,hmk⟩:=Et s.size (by omega);obtain⟨i0,hinf,hz0,hz1,hz2⟩:=info_parts uJ;have hm8:400≤maxLen:=by decide +kernel
 have hfl:=A1.lt;have hol:=R1.lt;go_upto_region 3 with fail;go_region
 have Z2:=aF W1 (.cells M 4) (.cells #[J Z (wn:Int),J Z (hn:Int),.string s,J Z lv,.slice (some ⟨W1.heap.size,0,none⟩) s.size s.size] 202);have s0:gy (W1.alloc (.cells M 4)) W1.heap.size s.size (fun _=>false):=⟨M,heap_alloc_new W1 _,hM⟩
 have x0:=ap (W1.alloc (.cells M 4)) (IP wn hn s lv W1.heap.size s.size) 202;have e1:(W1.alloc (.cells M 4)).heap.size=W1.heap.size+1:=by simp
 rw[e1]at x0
 have ST0:gx w ((W1.alloc (.cells M 4)).alloc (.cells #[J Z (wn:Int),J Z (hn:Int),.string s,J Z lv,.slice (some ⟨W1.heap.size,0,none⟩) s.size s.size] 202)) fb ob (W1.heap.size+1) W1.heap.size wn hn s lv (fun _=>false):=
  ⟨bI.kept s0 (ak _ _),x0,A1.kept Z2,R1.kept Z2,aj B1 Z2⟩
 have e2:((W1.alloc (.cells M 4)).alloc (.cells #[J Z (wn:Int),J Z (hn:Int),.string s,J Z lv,.slice (some ⟨W1.heap.size,0,none⟩) s.size s.size] 202)).heap.size=W1.heap.size+1+1:=by simp
 have ST1:gx w ((W1.alloc (.cells M 4)).alloc (.cells #[J Z (wn:Int),J Z (hn:Int),.string s,J Z lv,.slice (some ⟨W1.heap.size,0,none⟩) s.size s.size] 202)).drew fb ob (W1.heap.size+1) W1.heap.size wn hn s lv (fun _=>false):=⟨ST0.seen.drewn,Blk.drewn ST0.look,ST0.fr.drewn,ST0.res.drewn,ST0.bel.drew⟩
 have e3:((W1.alloc (.cells M 4)).alloc (.cells #[J Z (wn:Int),J Z (hn:Int),.string s,J Z lv,.slice (some ⟨W1.heap.size,0,none⟩) s.size s.size] 202)).drew.heap.size=W1.heap.size+1+1:=e2;clear ST0 Z2 s0 x0 e1 e2 hmk hM a0 a1 a2 r0 r1 g0 g1 A1 R1;have hW1:=B1.size;clear B1;generalize ((W1.alloc (.cells M 4)).alloc (.cells #[J Z (wn:Int),J Z (hn:Int),.string s,J Z lv,.slice (some ⟨W1.heap.size,0,none⟩) s.size s.size] 202)).drew=W4 at ST1 e3 ⊢;obtain⟨sb,hsb⟩:∃sb,sb=W1.heap.size:=⟨_,rfl⟩
 obtain⟨xb,hxb⟩:∃xb,xb=W1.heap.size+1:=⟨_,rfl⟩
 rw[←hxb,←hsb]at ST1;rw[←hxb];have hlt1:fb<sb:=by omega
 have hlt2:ob<sb:=by omega
 have hlt3:sb<xb:=by omega
 have hlt4:w.heap.size≤sb:=by omega
 have hlo:xb<W4.heap.size:=by omega
 clear hsb hxb hfl hol hW1 e3;have HST:=yz (ST1.kept (ak W4 (.cells #[] 163)));have HO:=yz (DG W4 W4.heap.size (Nat.le_refl _));clear ST1;generalize hfe:ic wn hn s lv=f;have HF:=yz hfe;clear hfe;have hfn:f.n=s.size:=by rw[←yx HF];exact(yx HSZ).symm
 have HFN:=yz hfn;clear hfn;go_wp2_with fail;generalize hlw:W4.heap.size=lo at *;clear hlw;generalize W4.alloc (.cells #[] 163)=W5 at HST HO ⊢;go_loopw [6,7] (fun v kk wr=>∃k:Nat,k≤s.size∧kk=J Z k∧Hid (wr.ownsRow lo 163 5 v (aP f k).2.length (eZ (aP f k).2))∧Hid (gx w wr fb ob xb sb wn hn s lv (aP f k).1)∧lo≤wr.heap.size) (fun _ kk _=>s.size-(intOf kk).toNat)
 case atStart=>exact⟨0,Nat.zero_le _,rfl,HO,HST,by have:=((yx HO).lt lo rfl).2;omega⟩
 case round=>
  clear HO HST;obtain⟨k,hk,rfl,HO,HST,hlow⟩:=hrel;have a2:=(yx HST).fr.cell 2 _ rfl;by_cases hkn:k<s.size
  ·have hkn2:(k:Int)<(s.size:Int):=by omega
   have HSC:Hid (aP f (k+1)=if kQ f (aP f k).1 k=true then ((fN f (aP f k).1 k).1,(aP f k).2 ++ [gw f (fN f (aP f k).1 k).2]) else aP f k):=yz rfl;have hsl:=mW f k;generalize aP f k=Sc at *;obtain⟨T1,S1⟩:=Sc;simp only at *;go_wp2_with fail;refine(pU wn hn s lv xb sb s.size k T1 _ rfl hkn (yx HST).look (yx HST).seen).mono ?_;rintro e W6 ⟨rfl,hx⟩;rw[yx HF];have HST2:=an HST hx;have HO2:=yz (aW (yx HO) hx);have hlow2:=Nat.le_trans hlow hx.size;clear HST HO hx a2 hlow;cases hl:kQ f T1 k
   ·rw[hl]at HSC;have HSC2:Hid (aP f (k+1)=(T1,S1)):=HSC;have HO3:Hid (W6.ownsRow lo 163 5 u6 (aP f (k+1)).2.length (eZ (aP f (k+1)).2)):=yz (by rw[yx HSC2];exact yx HO2);have HST3:Hid (gx w W6 fb ob xb sb wn hn s lv (aP f (k+1)).1):=yz (by rw[yx HSC2];exact yx HST2);go_wp2_with fail;go_roundw
    case rel=>exact⟨k+1,by omega,by go_num,HO3,HST3,hlow2⟩
    case measure=>simp[intOf]<;>omega
   ·rw[hl,if_pos rfl]at HSC;have hT:=(rW hl).2;have cG:=yz (fun (W:World) h1 h2=>xe wn hn s lv xb sb k T1 W (by omega) (by omega) (by omega) (by omega) (yx HSZ) hkn hT (by omega) h1 h2);rw[yx HF]at cG;clear hl hT;generalize hbp:fN f T1 k=Bp at *;clear hbp;obtain⟨T2,Ab⟩:=Bp;simp only at HSC cG;generalize gw f Ab=b at *;obtain⟨ar,su,sx,sy,ed⟩:=b;have cG':Hid (∀W:World,kU W xb wn hn s lv sb s.size→gy W sb s.size T1→Calls Tryz.prog 146 #[.pointer (some ⟨xb,0,none⟩),J Z k] W fun e w'=>e=.returned (.agg #[J Z ar,J Z su,J Z sx,J Z sy,.bool ed])∧gy w' sb s.size T2∧W.grownBy w' (some sb)):=cG;clear cG;go_wp2_with fail;refine(yx cG' _ (yx HST2).look (yx HST2).seen).mono ?_;rintro e W7 ⟨rfl,hs7,hg7⟩;have HST3:=yz ((yx HST2).seenBy hg7 hs7 (by omega) (by omega) (by omega) hlt4)
    have HO3:=yz ((yx HO2).kept hg7 (by
     cases hv:u6.ownBlock with
     | none=>exact .inl rfl
     | some z=>exact .inr (fun e=>by have:=((yx HO2).lt z hv).1;have:=Option.some.inj e;omega)))
    have hlow3:=Nat.le_trans hlow2 hg7.size;clear hs7 hg7 HST2 HO2;have Z1:=ak W7 (.cells #[J Z ar,J Z su,J Z sx,J Z sy,.bool ed] 163);have hown:=aW (yx HO3) Z1;have ST4:=(yx HST3).kept Z1;clear Z1;go_wp2_with (at_builtin;refine wpList_append_own _ rfl _ _ 158 rfl lo 163 i0 (.agg #[J Z 0,J Z 0,J Z 0,J Z 0,.bool false]) 5 40 Tryz.underlying158 hinf hz0 hz1 hz2 rfl (by decide) _ _ _ rfl hown ⟨W7.heap.size,0,none⟩ 1 1 (eZ [⟨ar,su,sx,sy,ed⟩]) rfl rfl ?d2 (fun u hu=>rr hu) ?d3 ?d4 ?d5 ?_)
    case d2=>first | exact fun j u h=>h | exact fk _ _ _
    case d3=>omega
    case d4=>omega
    case d5=>first | omega | (simp;omega)
    intro v7 V7 hown7 hgrow7 _;have ST5:=ST4.byRow hgrow7 (fun q e=>(hown.lt q e).1) (by omega) (by omega) (by omega) (by omega) (by omega);have hsz7:=hgrow7.size;have HO5:Hid (V7.ownsRow lo 163 5 v7 (aP f (k+1)).2.length (eZ (aP f (k+1)).2)):=yz (by rw[yx HSC,uz,List.length_append];exact hown7);have HST5:Hid (gx w V7 fb ob xb sb wn hn s lv (aP f (k+1)).1):=yz (by rw[yx HSC];exact ST5);have hlow5:lo≤V7.heap.size:=by simp at hsz7;omega
    clear hown7 hgrow7 hown ST4 ST5 hsz7;go_wp2_with fail;go_roundw
    case rel=>exact⟨k+1,by omega,by go_num,HO5,HST5,hlow5⟩
    case measure=>simp[intOf]<;>omega
  ·have hke:k=s.size:=by omega
   subst hke;have HAL:Hid (tw wn hn s lv=(aP f s.size).2):=yz (by unfold tw;rw[←yx HF];rfl);have r0:=(yx HST).res.cell 0 _ rfl;have r1:=(yx HST).res.cell 1 _ rfl;have g0:=(yx HST).res.free 0;have g1:=(yx HST).res.free 1;have hB:=(yx HST).bel;obtain⟨a6,cap6,hv6⟩:=bM (yx HO);subst hv6;by_cases h8:(aP f s.size).2.length≤8
   ·have HV:=yz (yP (yx HOK) (by rw[yx HAL];exact h8));rw[yx HAL]at HV;have h8':¬(8:Int)<((aP f s.size).2.length:Int):=by omega
    have HO9:=eT (yx HO) (show w.heap.size≤lo by omega)
    have HO10:=yI HO9 ob (by
     intro z e;have:=((yx HO).lt z e).1
     omega) (.slice a6 (aP f s.size).2.length cap6) (J Z 0)
    clear HO9;generalize aP f s.size=Sf at *;obtain⟨T1,S1⟩:=Sf;simp only at *;go_wp2_with fail;rw[(yx HV).1,(yx HV).2];exact bodyPost_ret (v:=.agg #[.slice a6 S1.length cap6,J Z 0]) (by simp[results,Tryz.results109,go_sem,r0,r1]) rfl ⟨⟨_,rfl,HO10⟩,(hB.setCell lob _).setCell lob _⟩
   ·have HV:=yz (vi (yx HOK) (by rw[yx HAL];exact h8));have h8':(8:Int)<((aP f s.size).2.length:Int):=by omega
    generalize aP f s.size=Sf at *;obtain⟨T1,S1⟩:=Sf;simp only at *;go_wp2_with fail;rw[(yx HV).1,(yx HV).2];exact bodyPost_ret (v:=.agg #[.slice none 0 0,J Z 9]) (by simp[results,Tryz.results109,go_sem,r0,r1]) rfl ⟨⟨_,rfl,World.ownsRow_nil _ _ _ _⟩,(hB.setCell lob _).setCell lob _⟩
end
section
open Go.RowKit Go.Deep Go.ChangeShapes
def oJ : List (String × DataW Unit) := ("errors.errorType", Rows.laid_errors_errorType) :: rU
variable {W:World}
theorem Fh (h : laidMetH Tryz.prog oJ W) : laidMet Tryz.prog rU W := (show laidMet Tryz.prog rU W ∧ handlesMet Tryz.prog [("errors.errorType", Rows.laid_errors_errorType)] W from h).1
theorem Js(h:laidMetH Tryz.prog oJ W):fz W:=by
 obtain ⟨name, u, ty, e1, e2, e3, e4, e5⟩ := (show laidMet Tryz.prog rU W ∧ handlesMet Tryz.prog [("errors.errorType", Rows.laid_errors_errorType)] W from h).2 _ (List.mem_singleton.2 rfl);have en : name = [101, 114, 114, 111, 114] := (Option.some.inj e1).symm;subst en;obtain rfl := Option.some.inj (FY.symm.trans e2);have hm : ty ∈ (List.range 341).filter fun t => Tryz.prog.rowNamed t [101, 114, 114, 111, 114] := List.mem_filter.2 ⟨List.mem_range.2 (by rw [← El]; exact e3), e4⟩;rw [Jz] at hm;obtain rfl := List.mem_singleton.1 hm;have hh : typeHandle Tryz.prog 129 = .pointer (some ⟨3, 129, none⟩) := by kernel_rfl
 rw[hh]at e5;simpa[fz] using World.var?_cell EL e5 0
theorem rh {H : Type} (enc : TypeId × Value → H) {W : World} {p q : Addr} (hp : W.var? Tryz.prog "loop.example/g00577/impl.errNoSky" = some #[.iface 309 (.pointer (some p))]) (hq : W.var? Tryz.prog "loop.example/g00577/impl.errNoCommand" = some #[.iface 309 (.pointer (some q))]) (sp : Nat → Bool) :
  DataW.TrodVars enc Tryz.prog W sp ["loop.example/g00577/impl.errNoSky", "loop.example/g00577/impl.errNoCommand"] [tok enc (.iface 309 (.pointer (some p))), tok enc (.iface 309 (.pointer (some q)))] [.cell 1 0, .cell 0 0] :=
 vars_read2 enc nt BH Tryz.underlying129 hp trivial np BA Tryz.underlying129 hq trivial sp
theorem Jt(os:Os)(args:Array Value):laidMetH Tryz.prog oJ ((World.doorLaid Tryz.prog 400 os).forCall (fun _ _=>0) ⟨#[],args,[]⟩).memory:=
 laidMetH_of_parts (laidMet_of_run' 8 (by kernel_rfl) (by kernel_rfl)) (by kernel_rfl)
end
end Go.Proofs.YteoonaanoenjiaaGreatDoor
