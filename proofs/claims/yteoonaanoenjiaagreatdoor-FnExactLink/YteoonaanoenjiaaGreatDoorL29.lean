/- Several texts in one: BlB. -/
import Derived.Maps.AppendAt
import Derived.Deep.CutRange
import Derived.Test.YteoonaanoenjiaaGreatDoorL28
namespace Go.Proofs.YteoonaanoenjiaaGreatDoor
set_option linter.unusedVariables false
set_option linter.unusedSimpArgs false
set_option maxRecDepth 100000
set_option maxHeartbeats 8000000
section
open Go.Value renaming int → J
open Go.IntKind renaming i64 → Z
open Go.RowKit Go.Sort
theorem Dj:(Tryz.prog.info? 2).map (fun i=>(i.zero,i.size,i.bytes))=some (some (J Z 0),1,8):=by kernel_rfl
def nums(l:List Nat):List Value:=l.map fun (n:Nat)=>Value.int .i64 (n:Int)
theorem lp(a b:List Nat):nums (a ++ b)=nums a ++ nums b:=by unfold nums;rw[List.map_append]
theorem qG(l:List Nat)(k:Nat)(h:k<l.length):(nums l)[k]? = some (J Z (l.getD k 0:Nat)):=by
 unfold nums;rw[List.getElem?_map,List.getElem?_eq_getElem h,List.getD,List.getElem?_eq_getElem h];rfl
def it(b:Bl):List Value:=[J Z b.ar,J Z b.su,J Z b.sx,J Z b.sy,.bool b.ed]
def tr:List Value:=[J Z 0,J Z 0,J Z 0,J Z 0,.bool false]
variable {s:ByteArray} {BL cs xs:List Value} {b b' g m q sb xb:Nat} {T1:Nat→Bool} {f:Nat→Value} {t:TypeId} {v v8:Value} {w w1 w2 wx wy:World}
theorem Blk.grown{row:Option Nat}(h:Blk w b cs t)(hg:w.grownBy w2 row)(hne:some b≠row):Blk w2 b cs t:=(hg.block b h.lt hne).trans h
theorem bI.grown{row:Option Nat}(h:bI w t g m f)(hg:w.grownBy w2 row)(hne:some g≠row):bI w2 t g m f:=h.same (hg.block g h.lt hne)
theorem bI.drewn(h:bI w t g m f):bI w.drew t g m f:=h.same rfl
theorem aW{w':World}{B:Nat}{n:Nat}(h:w.ownsRow B t m v n xs)(hB:Below w.heap.size w w'):w'.ownsRow B t m v n xs:=
 h.kept (row:=none) ⟨hB.os,hB.tape,hB.output,hB.size,fun k hk _=>hB.block k hk⟩ (by cases hv:v.ownBlock<;>simp)
theorem yH{B:Nat}{n:Nat}(h:w.ownsRow B t 1 v n xs)(hn:0<n):∃g cap,v=.slice (some ⟨g,0,none⟩) n cap∧B≤g∧∀j u,xs[j]? = some u→w.cell? ⟨g,j,none⟩=some u:=by
 have h':=h;rcases h.2 with ⟨_,h0⟩ | ⟨g,cap,cur,rfl,hb,_⟩
 ·omega
 ·refine⟨g,cap,rfl,hb,fun j u hj=>?_⟩;have hl:j<n*1:=by rw[←h'.1];exact(List.getElem?_eq_some_iff.1 hj).1
  rw[h'.cellAt j hl,hj]
theorem hZ(s:ByteArray)(i:Nat):dc s i<256:=by
 unfold dc;split
 ·exact UInt8.toNat_lt _
 ·omega
theorem By(h:Blk w b cs t)(hne:b≠b')(x y z u:Value):Blk ((((w.setCell ⟨b',0,none⟩ x).setCell ⟨b',1,none⟩ y).setCell ⟨b',2,none⟩ z).setCell ⟨b',3,none⟩ u) b cs t:=(((h.other _ _ hne).other _ _ hne).other _ _ hne).other _ _ hne
theorem bI.other(h:bI w t g m f)(a:Addr)(v:Value)(hne:g≠a.block):bI (w.setCell a v) t g m f:=h.same (heap_setCell_other w a g v hne)
theorem Ih(h:bI w t g m f)(hne:g≠b')(x y z u:Value):bI ((((w.setCell ⟨b',0,none⟩ x).setCell ⟨b',1,none⟩ y).setCell ⟨b',2,none⟩ z).setCell ⟨b',3,none⟩ u) t g m f:=(((h.other _ _ hne).other _ _ hne).other _ _ hne).other _ _ hne
theorem dK(h:w.grownBy w1 (some sb)){a:Addr}(ha:w.heap.size≤a.block)(v:Value):w.grownBy (w1.setCell a v) (some sb):=
 ⟨h.os,h.tape,h.output,by simpa[World.setCell] using h.size,fun k hk hne=>by rw[Below.heap_setCell _ _ _ _ (fun e=>by omega)];exact h.block k hk hne⟩
theorem Dg(h:w.grownBy w1 (some sb))(hb:w.heap.size≤b')(x y z u:Value):w.grownBy ((((w1.setCell ⟨b',0,none⟩ x).setCell ⟨b',1,none⟩ y).setCell ⟨b',2,none⟩ z).setCell ⟨b',3,none⟩ u) (some sb):=dK (dK (dK (dK h hb _) hb _) hb _) hb _
theorem fD{B:Nat}{n:Nat}(h:w.ownsRow B t m v n xs){a:Addr}(u:Value)(hne:a.block<B):(w.setCell a u).ownsRow B t m v n xs:=by
 have hg:w.grownBy (w.setCell a u) (some a.block):=⟨rfl,rfl,rfl,by simp[World.setCell],fun k _ hk=>Below.heap_setCell _ _ _ _ (fun e=>hk (by rw[e]))⟩
 exact h.kept hg (by cases hv:v.ownBlock with
  | none=>exact .inl rfl
  | some g=>exact .inr (fun e=>by have:=(h.lt g hv).1;have:=Option.some.inj e;omega))
theorem Ib{B:Nat}{n:Nat}(h:w.ownsRow B t m v n xs)(hb:b'<B)(x y z u:Value):((((w.setCell ⟨b',0,none⟩ x).setCell ⟨b',1,none⟩ y).setCell ⟨b',2,none⟩ z).setCell ⟨b',3,none⟩ u).ownsRow B t m v n xs:=fD (fD (fD (fD h _ hb) _ hb) _ hb) _ hb
theorem FL{B:Nat}{n:Nat}(h:w.ownsRow B t m v n xs):w.drew.ownsRow B t m v n xs:=h
theorem nL(w:World)(x:Value)(t:TypeId):∀(j:Nat) (u:Value),[x][j]? = some u→(w.alloc (.cells #[x] t)).cell? ((⟨w.heap.size,0,none⟩:Addr).add j)=some u:=by
 intro j u hj
 match j,hj with
 | 0,hj=>simp at hj;subst hj;simp[Addr.add]
 | j+1,hj=>simp at hj
structure ei (w wx:World) (xb sb:Nat) (wd ht:Nat) (s:ByteArray) (lv:Int) (T1:Nat→Bool) (BL:List Value) (v8:Value) (A:List Nat):Prop where
 blob:Blk wx (w.heap.size+1) BL 163
 seen:gy wx sb s.size T1
 look:kU wx xb wd ht s lv sb s.size
 res:Blk wx w.heap.size tr 163
 all:wx.ownsRow (w.heap.size+2) 2 1 v8 A.length (nums A)
 grown:w.grownBy wx (some sb)
theorem ei.kept{wd ht:Nat}{lv:Int}{A:List Nat}(h:ei w wx xb sb wd ht s lv T1 BL v8 A)(hB:Below wx.heap.size wx wy):ei w wy xb sb wd ht s lv T1 BL v8 A:=
 ⟨h.blob.kept hB,bI.kept h.seen hB,Blk.kept h.look hB,h.res.kept hB,aW h.all hB,⟨by rw[hB.os];exact h.grown.os,by rw[hB.tape];exact h.grown.tape,by rw[hB.output];exact h.grown.output,Nat.le_trans h.grown.size hB.size,fun k hk hne=>by rw[hB.block k (Nat.lt_of_lt_of_le hk h.grown.size)];exact h.grown.block k hk hne⟩⟩
theorem ei.byRow{wd ht lo:Nat}{lv:Int}{A:List Nat}{row:Option Nat}(h:ei w wx xb sb wd ht s lv T1 BL v8 A)(hg:wx.grownBy wy row)(hr:∀g,row=some g→lo≤g)(h1:w.heap.size+1<lo)(hsb:sb<lo)(hxb:xb<lo)(h8:∀g,v8.ownBlock=some g→g<lo):ei w wy xb sb wd ht s lv T1 BL v8 A:=by
 have ne:∀b,b<lo→some b≠row:=fun b hb e=>by have:=hr b e.symm;omega
 refine⟨h.blob.grown hg (ne _ h1),bI.grown h.seen hg (ne _ hsb),Blk.grown h.look hg (ne _ hxb),h.res.grown hg (ne _ (by omega)),h.all.kept hg ?_,?_⟩
 ·cases hv:v8.ownBlock with
  | none=>exact .inl rfl
  | some g=>exact .inr (ne g (h8 g hv))
 ·refine⟨hg.os.trans h.grown.os,hg.tape.trans h.grown.tape,hg.output.trans h.grown.output,Nat.le_trans h.grown.size hg.size,fun k hk hne=>?_⟩;rw[hg.block k (Nat.lt_of_lt_of_le hk h.grown.size) (ne k (by omega))];exact h.grown.block k hk hne
theorem ei.mark{wd ht:Nat}{lv:Int}{A:List Nat}(h:ei w wx xb sb wd ht s lv T1 BL v8 A)(hq:q<s.size)(hxs:xb≠sb)(ls:sb<w.heap.size)(lx:xb<w.heap.size):ei w (wx.setCell ⟨sb,q,none⟩ (.bool true)).drew xb sb wd ht s lv (Go.Proofs.YteoonaanoenjiaaGreatDoor.mark T1 q) BL v8 A:=by
 have hs:gy (wx.setCell ⟨sb,q,none⟩ (.bool true)) sb s.size (Go.Proofs.YteoonaanoenjiaaGreatDoor.mark T1 q):=bI.congr (bI.set h.seen q (.bool true)) (fun j _=>by unfold Go.Proofs.YteoonaanoenjiaaGreatDoor.mark;by_cases e:j=q<;>simp[e]);have ho:=fD h.all (a:=⟨sb,q,none⟩) (.bool true) (show sb<w.heap.size+2 by omega);have hg:=Ho h.grown q (.bool true);exact⟨(h.blob.other ⟨sb,q,none⟩ (.bool true) (show w.heap.size+1≠sb by omega)).drewn,bI.drewn hs,Blk.drewn (Blk.other h.look ⟨sb,q,none⟩ (.bool true) hxs),(h.res.other ⟨sb,q,none⟩ (.bool true) (show w.heap.size≠sb by omega)).drewn,ho,⟨hg.os,hg.tape,hg.output,hg.size,hg.block⟩⟩
theorem ei.appended{wd ht:Nat}{lv:Int}{v7:Value}{A:List Nat}(h:ei w wx xb sb wd ht s lv T1 BL v8 A)(hg:wx.grownBy wy v8.ownBlock)(ho:wy.ownsRow (w.heap.size+2) 2 1 v7 (A.length+1) (nums A ++ [J Z (q:Int)]))(ls:sb<w.heap.size)(lx:xb<w.heap.size):ei w wy xb sb wd ht s lv T1 BL v7 (A ++ [q]):=by
 have ne:∀b,b<w.heap.size+2→some b≠v8.ownBlock:=fun b hb e=>by have:=(h.all.lt b e.symm).1;omega
 refine⟨h.blob.grown hg (ne _ (by omega)),bI.grown h.seen hg (ne _ (by omega)),Blk.grown h.look hg (ne _ (by omega)),h.res.grown hg (ne _ (by omega)),?_,?_⟩
 ·rw[lp,List.length_append];exact ho
 ·refine⟨hg.os.trans h.grown.os,hg.tape.trans h.grown.tape,hg.output.trans h.grown.output,Nat.le_trans h.grown.size hg.size,fun k hk hne=>?_⟩;rw[hg.block k (Nat.lt_of_lt_of_le hk h.grown.size) (ne k (by omega))];exact h.grown.block k hk hne
theorem bM{B:Nat}{n:Nat}(h:w.ownsRow B t m v n xs):∃a c,v=.slice a n c:=by
 rcases h.2 with ⟨h1,h0⟩ | ⟨g,cap,cur,hv,_⟩
 ·exact⟨none,0,by rw[h1,h0]⟩
 ·exact⟨_,cap,hv⟩
theorem FO(w:World)(B:Nat)(h:B≤w.heap.size):(w.alloc (.cells #[] 2)).ownsRow B 2 1 (.slice (some ⟨w.heap.size,0,none⟩) 0 0) 0 (nums []):=
 ⟨rfl,.inr ⟨_,0,#[],rfl,h,Array.getElem?_push_size,Nat.le_refl _,Nat.zero_le _,rfl,rfl⟩⟩
theorem Fq(f:Fr)(p c r:Nat)(hc:c=p % f.wd)(hr:r=p / f.wd):jA f p=(((([] ++ (if 0<c then [p-1] else [])) ++ (if c<f.wd-1 then [p+1] else [])) ++ (if 0<r then [p-f.wd] else [])) ++ (if r<f.ht-1 then [p+f.wd] else [])):=by
 unfold jA;rw[←hc,←hr,List.nil_append]
theorem xe(wd ht:Nat)(s:ByteArray)(lv:Int)(xb sb i:Nat)(T:Nat→Bool)(w:World)(hw0:1≤wd)(hw:wd≤16)(hh0:1≤ht)(hh:ht≤12)(hs:s.size=wd*ht)(hi:i<s.size)(hT:T i=false)(hxs:xb≠sb)(hL:kU w xb wd ht s lv sb s.size)(hS:gy w sb s.size T):
  Calls Tryz.prog 146 #[.pointer (some ⟨xb,0,none⟩),J Z i] w fun e w'=>e=.returned (.agg (it (gw (ic wd ht s lv) (fN (ic wd ht s lv) T i).2)).toArray)∧gy w' sb s.size (fN (ic wd ht s lv) T i).1∧w.grownBy w' (some sb):=by
 obtain⟨i0,hinf,hz0,hz1,hz2⟩:=info_parts Dj;have hm8:400≤maxLen:=by decide +kernel
 have hn192:s.size≤192:=by rw[hs];exact Nat.mul_le_mul hw hh
 have c0:=hL.cell 0 _ rfl;have c1:=hL.cell 1 _ rfl;have c4:=hL.cell 4 _ rfl;have d0:=hS.cell hi;have df:=hS.free i;have lx:=hL.lt;have ls:=hS.lt;have hi2:(i:Int)<(s.size:Int):=by omega
 have HSZ:=yz hs;have HT:=yz hT;clear hs hT;go_enter Tryz.func146,Tryz.ntmps146;go_upto_region 5 with fail;clear c0 c1 c4 d0 df;have Z3:=bq w (.cells #[J Z 0,J Z 0,J Z 0,J Z 0,.bool false] 163) (.cells #[J Z 0,J Z 0,J Z 0,J Z 0,.bool false] 163) (.cells #[J Z (i:Int)] 2);have R0:Blk (((w.alloc (.cells #[J Z 0,J Z 0,J Z 0,J Z 0,.bool false] 163)).alloc (.cells #[J Z 0,J Z 0,J Z 0,J Z 0,.bool false] 163)).alloc (.cells #[J Z (i:Int)] 2)) w.heap.size tr 163:=((ap w tr 163).alloc _).alloc _;have b0:=ap (w.alloc (.cells #[J Z 0,J Z 0,J Z 0,J Z 0,.bool false] 163)) tr 163;have e1:(w.alloc (.cells #[J Z 0,J Z 0,J Z 0,J Z 0,.bool false] 163)).heap.size=w.heap.size+1:=by simp
 rw[e1]at b0;have Q0:Blk (((w.alloc (.cells #[J Z 0,J Z 0,J Z 0,J Z 0,.bool false] 163)).alloc (.cells #[J Z 0,J Z 0,J Z 0,J Z 0,.bool false] 163)).alloc (.cells #[J Z (i:Int)] 2)) (w.heap.size+1) tr 163:=b0.alloc _;have e2:((w.alloc (.cells #[J Z 0,J Z 0,J Z 0,J Z 0,.bool false] 163)).alloc (.cells #[J Z 0,J Z 0,J Z 0,J Z 0,.bool false] 163)).heap.size=w.heap.size+1+1:=by simp
 have O0:(((w.alloc (.cells #[J Z 0,J Z 0,J Z 0,J Z 0,.bool false] 163)).alloc (.cells #[J Z 0,J Z 0,J Z 0,J Z 0,.bool false] 163)).alloc (.cells #[J Z (i:Int)] 2)).ownsRow (w.heap.size+2) 2 1 (.slice (some ⟨w.heap.size+1+1,0,none⟩) 1 1) 1 (nums [i]):=by
  have h:=World.ownsRow_lit (base:=w.heap.size+2) (e:=2) (size:=1) ((w.alloc (.cells #[J Z 0,J Z 0,J Z 0,J Z 0,.bool false] 163)).alloc (.cells #[J Z 0,J Z 0,J Z 0,J Z 0,.bool false] 163)) #[J Z (i:Int)] 1 (by omega) (by omega) rfl;rw[e2]at h;exact h
 have L0:kU _ xb wd ht s lv sb s.size:=Blk.kept hL Z3;have S0:gy _ sb s.size T:=bI.kept hS Z3;have G0:w.grownBy _ (some sb):=⟨Z3.os,Z3.tape,Z3.output,Z3.size,fun k hk _=>Z3.block k hk⟩
 clear b0 e1 e2 Z3 hL hS;generalize ((w.alloc (.cells #[J Z 0,J Z 0,J Z 0,J Z 0,.bool false] 163)).alloc (.cells #[J Z 0,J Z 0,J Z 0,J Z 0,.bool false] 163)).alloc (.cells #[J Z (i:Int)] 2)=W0 at R0 Q0 O0 L0 S0 G0 ⊢;have c4:=L0.cell 4 _ rfl;have d0:=S0.cell hi;have df:=S0.free i;have S1:=bI.set S0 i (.bool true);have R1:=R0.other ⟨sb,i,none⟩ (.bool true) (show w.heap.size≠sb by omega);have Q1:=Q0.other ⟨sb,i,none⟩ (.bool true) (show w.heap.size+1≠sb by omega);have L1:=Blk.other L0 ⟨sb,i,none⟩ (.bool true) hxs;have O1:=fD O0 (a:=⟨sb,i,none⟩) (.bool true) (show sb<w.heap.size+2 by omega);have G1:=Ho G0 i (.bool true);have HR:=yz R1;have HQ:=yz Q1;have HL:=yz L1;have HO:=yz O1;have HG:=yz G1;have HS:Hid (gy (W0.setCell ⟨sb,i,none⟩ (.bool true)) sb s.size (mark T i)):=yz (bI.congr S1 (fun j _=>by unfold mark;by_cases e:j=i<;>simp[e]));go_wp2_with fail;clear R0 Q0 O0 L0 S0 G0 c4 d0 df S1 R1 Q1 L1 O1 G1;generalize hfe:ic wd ht s lv=f;have HF:=yz hfe;clear hfe;have HGood:Hid (∀k,tu f (cnt T f.n) (aV f T i k)):=yz (fun k=>ks (by rw[←yx HF];show i<wd*ht;rw[←yx HSZ];exact hi) (yx HT) k);have hfn:f.n=s.size:=by rw[←yx HF];exact(yx HSZ).symm
 have HFN:=yz hfn;clear hfn;have HLen:Hid (∀k,(aV f T i k).2.length≤s.size):=yz (fun k=>by have:=(yx HGood k).len;rw[yx HFN]at this;omega);go_loopw [8,9] (fun v kk wr=>∃k:Nat,k≤(aV f T i k).2.length∧kk=J Z k∧Hid (wr.ownsRow (w.heap.size+2) 2 1 v (aV f T i k).2.length (nums (aV f T i k).2))∧Hid (gy wr sb s.size (aV f T i k).1)∧Hid (kU wr xb wd ht s lv sb s.size)∧Hid (Blk wr (w.heap.size+1) (it (gw f ((aV f T i k).2.take k))) 163)∧Hid (Blk wr w.heap.size tr 163)∧Hid (w.grownBy wr (some sb))) (fun _ kk _=>s.size-(intOf kk).toNat)
 case atStart=>exact⟨0,Nat.zero_le _,rfl,HO,HS,HL,HQ,HR,HG⟩
 case round=>
  clear HR HQ HL HO HS HG;obtain⟨k,hk,rfl,HO,HS,HL,HQ,HR,HG⟩:=hrel;have hkl:=yx HLen k;by_cases hkn:k<(aV f T i k).2.length
  ·have hpm:(aV f T i k).2.getD k 0∈(aV f T i k).2:=by rw[List.getD,List.getElem?_eq_getElem hkn];exact List.getElem_mem hkn
   have hpl:=(yx HGood k).lies _ hpm;rw[yx HFN]at hpl;have HNX:Hid (aV f T i (k+1)=fq f (aV f T i k) (jA f ((aV f T i k).2.getD k 0))):=yz (by rw[aV,if_pos hkn])
   have HTK:Hid ((aV f T i k).2.take (k+1)=(aV f T i k).2.take k ++ [(aV f T i k).2.getD k 0]):=yz (by
    rw[List.take_succ_eq_append_getElem hkn,List.getD,List.getElem?_eq_getElem hkn];rfl)
   have hbd:=pf (f:=f) (by rw[←yx HF];exact hw) (by rw[←yx HF];exact hh) (fun i=>by rw[←yx HF];exact hZ s i) ((aV f T i k).2.take k) (fun j hj=>(yx HGood k).lies j (List.mem_of_mem_take hj));rw[List.length_take]at hbd;obtain⟨g,cap,hv,hgb,hcells⟩:=yH (yx HO) (by omega);have ca:=hcells k _ (qG _ k hkn);clear hpm hcells;generalize hGe:aV f T i k=G at *;have HGe:=yz hGe;clear hGe;obtain⟨T1,A⟩:=G;simp only at *;generalize hpe:A.getD k 0=p at *;have HPe:=yz hpe;clear hpe;generalize hbe:gw f (A.take k)=b at *;have HBe:=yz hbe;clear hbe;obtain⟨ar,su,sx,sy,ed⟩:=b;simp only at hbd;obtain⟨hb1,hb2,hb3,hb4⟩:=hbd;have hb1':ar=k:=by omega
   have harb:ar≤192:=by omega
   have HB1:=yz hb1';clear hb1 hb1';obtain⟨c0,c1,c2⟩:=eP (yx HL);subst hv;have hk2:(k:Int)<(A.length:Int):=by omega
   have hp2:(p:Int)<(s.size:Int):=by omega
   obtain⟨c,hce⟩:∃c,c=p % wd:=⟨_,rfl⟩
   obtain⟨r,hre⟩:∃r,r=p / wd:=⟨_,rfl⟩
   have hc:(p:Int) % (wd:Int)=(c:Int):=by rw[hce];rfl
   have hr:(p:Int) / (wd:Int)=(r:Int):=by rw[hre];rfl
   have hcl:c<wd:=by rw[hce];exact Nat.mod_lt _ (by omega)
   have hrl:r<ht:=by rw[hre];exact Nat.div_lt_of_lt_mul (by rw[←yx HSZ];exact hpl)
   have hpc:p=wd*r+c:=by rw[hce,hre];exact(Nat.div_add_mod p wd).symm
   have hpr1:0<r→wd≤p:=fun h=>by
    have h2:wd*1≤wd*r:=Nat.mul_le_mul_left _ h;omega
   have hpc1:0<c→1≤p:=fun h=>by omega
   have HCe:=yz hce;have HRe:=yz hre;clear hce hre hpc;have hwn:wrap64 (s[p].toNat:Int)=((dc s p:Nat):Int):=by rw[dX hpl];exact aq (by omega) (by have:=s[p].toNat_lt;omega)
   have HWN:=yz hwn;clear hwn;go_upto_region 13 with fail;rw[hc,yx HWN];clear hc hr HWN c0 c1 c2 ca;have hnb:=hZ s p;obtain⟨n,hne⟩:∃n,n=dc s p:=⟨_,rfl⟩
   rw[←hne]at hnb ⊢;have HNe:=yz hne;clear hne;obtain⟨m1,hm1⟩:∃m1,m1=n*c:=⟨_,rfl⟩
   obtain⟨m2,hm2⟩:∃m2,m2=n*r:=⟨_,rfl⟩
   have hm1b:m1≤255*15:=by rw[hm1];exact Nat.mul_le_mul (by omega) (by omega)
   have hm2b:m2≤255*11:=by rw[hm2];exact Nat.mul_le_mul (by omega) (by omega)
   have hx1:(n:Int)*(c:Int)=(m1:Int):=by rw[hm1];exact(Int.natCast_mul _ _).symm
   have hx2:(n:Int)*(r:Int)=(m2:Int):=by rw[hm2];exact(Int.natCast_mul _ _).symm
   have HM1:=yz hm1;have HM2:=yz hm2;clear hm1 hm2;obtain⟨q0,q1,q2,q3,q4⟩:=gL (yx HQ);obtain⟨e0,e1,e2,e3,e4⟩:=qa (yx HQ);simp only at q0 q1 q2 q3 q4;have lbx:w.heap.size+1≠xb:=by omega
   have lbs:w.heap.size+1≠sb:=by omega
   go_upto_region 17 with fail;have HQ2:=yz ((((yx HQ).set 0 (J Z ((ar:Int)+1))).set 1 (J Z ((su:Int)+(n:Int)))).set 2 (J Z ((sx:Int)+(m1:Int))) |>.set 3 (J Z ((sy:Int)+(m2:Int))));have HS2:=yz (Ih (yx HS) (Ne.symm lbs) (J Z ((ar:Int)+1)) (J Z ((su:Int)+(n:Int))) (J Z ((sx:Int)+(m1:Int))) (J Z ((sy:Int)+(m2:Int))));have HL2:=yz (By (yx HL) (Ne.symm lbx) (J Z ((ar:Int)+1)) (J Z ((su:Int)+(n:Int))) (J Z ((sx:Int)+(m1:Int))) (J Z ((sy:Int)+(m2:Int))));have HR2:=yz (By (yx HR) (show w.heap.size≠w.heap.size+1 by omega) (J Z ((ar:Int)+1)) (J Z ((su:Int)+(n:Int))) (J Z ((sx:Int)+(m1:Int))) (J Z ((sy:Int)+(m2:Int))));have HO2:=yz (Ib (yx HO) (show w.heap.size+1<w.heap.size+2 by omega) (J Z ((ar:Int)+1)) (J Z ((su:Int)+(n:Int))) (J Z ((sx:Int)+(m1:Int))) (J Z ((sy:Int)+(m2:Int))));have HG2:=yz (Dg (yx HG) (show w.heap.size≤w.heap.size+1 by omega) (J Z ((ar:Int)+1)) (J Z ((su:Int)+(n:Int))) (J Z ((sx:Int)+(m1:Int))) (J Z ((sy:Int)+(m2:Int))));generalize ((((wr.setCell ⟨w.heap.size+1,0,none⟩ (J Z ((ar:Int)+1))).setCell ⟨w.heap.size+1,1,none⟩ (J Z ((su:Int)+(n:Int)))).setCell ⟨w.heap.size+1,2,none⟩ (J Z ((sx:Int)+(m1:Int)))).setCell ⟨w.heap.size+1,3,none⟩ (J Z ((sy:Int)+(m2:Int))))=W2 at HQ2 HS2 HL2 HR2 HO2 HG2 ⊢;clear HQ HS HL HR HO HG q0 q1 q2 q3 q4 e0 e1 e2 e3 e4 hx1 hx2
   have HED:Hid (eE f p=(decide (c=0) || decide (r=0) || decide (c=wd-1) || decide (r=ht-1))):=yz (by
    unfold eE;rw[←yx HF];show (decide (p % wd=0) || decide (p / wd=0) || decide (p % wd=wd-1) || decide (p / wd=ht-1))=_
    rw[←yx HCe,←yx HRe])
   go_cut [8] from 35 to 167 (fun v wx=>v=.slice (some ⟨g,0,none⟩) A.length cap∧Hid (Blk wx (w.heap.size+1) [J Z ((ar:Int)+1),J Z ((su:Int)+(n:Int)),J Z ((sx:Int)+(m1:Int)),J Z ((sy:Int)+(m2:Int)),.bool (ed || eE f p)] 163)∧Hid (gy wx sb s.size T1)∧Hid (kU wx xb wd ht s lv sb s.size)∧Hid (Blk wx w.heap.size tr 163)∧Hid (wx.ownsRow (w.heap.size+2) 2 1 (.slice (some ⟨g,0,none⟩) A.length cap) A.length (nums A))∧Hid (w.grownBy wx (some sb)))
   case first=>
    have q4:=(yx HQ2).cell 4 _ rfl;have e4:=(yx HQ2).free 4;cases ed
    case true=>
     have HV:Hid ((true || eE f p)=true):=yz (by rw[Bool.true_or]);have HQ3:Hid (Blk (W2.setCell ⟨w.heap.size+1,4,none⟩ (.bool true)) (w.heap.size+1) [J Z ((ar:Int)+1),J Z ((su:Int)+(n:Int)),J Z ((sx:Int)+(m1:Int)),J Z ((sy:Int)+(m2:Int)),.bool (true || eE f p)] 163):=yz (by rw[yx HV];exact(yx HQ2).set 4 (.bool true));have HS3:=yz ((yx HS2).other ⟨w.heap.size+1,4,none⟩ (.bool true) (Ne.symm lbs));have HL3:=yz (Blk.other (yx HL2) ⟨w.heap.size+1,4,none⟩ (.bool true) (Ne.symm lbx));have HR3:=yz ((yx HR2).other ⟨w.heap.size+1,4,none⟩ (.bool true) (show w.heap.size≠w.heap.size+1 by omega));have HO3:=yz (fD (yx HO2) (a:=⟨w.heap.size+1,4,none⟩) (.bool true) (show w.heap.size+1<w.heap.size+2 by omega));have HG3:=yz (dK (yx HG2) (a:=⟨w.heap.size+1,4,none⟩) (show w.heap.size≤w.heap.size+1 by omega) (.bool true));go_wp2_with fail;go_meet
     case rel=>exact⟨rfl,HQ3,HS3,HL3,HR3,HO3,HG3⟩
    case false=>
     by_cases k0:c=0
     ·have kb0:((c:Int)==0)=true:=by simp;omega
      have K0:=yz k0;clear k0;have HV:Hid ((false || eE f p)=true):=yz (by rw[yx HED];simp[yx K0]);have HQ3:Hid (Blk (W2.setCell ⟨w.heap.size+1,4,none⟩ (.bool true)) (w.heap.size+1) [J Z ((ar:Int)+1),J Z ((su:Int)+(n:Int)),J Z ((sx:Int)+(m1:Int)),J Z ((sy:Int)+(m2:Int)),.bool (false || eE f p)] 163):=yz (by rw[yx HV];exact(yx HQ2).set 4 (.bool true));have HS3:=yz ((yx HS2).other ⟨w.heap.size+1,4,none⟩ (.bool true) (Ne.symm lbs));have HL3:=yz (Blk.other (yx HL2) ⟨w.heap.size+1,4,none⟩ (.bool true) (Ne.symm lbx));have HR3:=yz ((yx HR2).other ⟨w.heap.size+1,4,none⟩ (.bool true) (show w.heap.size≠w.heap.size+1 by omega));have HO3:=yz (fD (yx HO2) (a:=⟨w.heap.size+1,4,none⟩) (.bool true) (show w.heap.size+1<w.heap.size+2 by omega));have HG3:=yz (dK (yx HG2) (a:=⟨w.heap.size+1,4,none⟩) (show w.heap.size≤w.heap.size+1 by omega) (.bool true));go_wp2_with fail;go_meet
      case rel=>exact⟨rfl,HQ3,HS3,HL3,HR3,HO3,HG3⟩
     ·have kb0:((c:Int)==0)=false:=by simp;omega
      have K0:=yz k0;clear k0;by_cases k1:r=0
      ·have kb1:((r:Int)==0)=true:=by simp;omega
       have K1:=yz k1;clear k1;have HV:Hid ((false || eE f p)=true):=yz (by rw[yx HED];simp[yx K1]);have HQ3:Hid (Blk (W2.setCell ⟨w.heap.size+1,4,none⟩ (.bool true)) (w.heap.size+1) [J Z ((ar:Int)+1),J Z ((su:Int)+(n:Int)),J Z ((sx:Int)+(m1:Int)),J Z ((sy:Int)+(m2:Int)),.bool (false || eE f p)] 163):=yz (by rw[yx HV];exact(yx HQ2).set 4 (.bool true));have HS3:=yz ((yx HS2).other ⟨w.heap.size+1,4,none⟩ (.bool true) (Ne.symm lbs));have HL3:=yz (Blk.other (yx HL2) ⟨w.heap.size+1,4,none⟩ (.bool true) (Ne.symm lbx));have HR3:=yz ((yx HR2).other ⟨w.heap.size+1,4,none⟩ (.bool true) (show w.heap.size≠w.heap.size+1 by omega));have HO3:=yz (fD (yx HO2) (a:=⟨w.heap.size+1,4,none⟩) (.bool true) (show w.heap.size+1<w.heap.size+2 by omega));have HG3:=yz (dK (yx HG2) (a:=⟨w.heap.size+1,4,none⟩) (show w.heap.size≤w.heap.size+1 by omega) (.bool true));go_wp2_with fail;go_meet
       case rel=>exact⟨rfl,HQ3,HS3,HL3,HR3,HO3,HG3⟩
      ·have kb1:((r:Int)==0)=false:=by simp;omega
       have K1:=yz k1;clear k1;by_cases k2:c=wd-1
       ·have kb2:((c:Int)==(wd:Int)-1)=true:=by simp;omega
        have K2:=yz k2;clear k2;have HV:Hid ((false || eE f p)=true):=yz (by rw[yx HED];simp[yx K2]);have HQ3:Hid (Blk (W2.setCell ⟨w.heap.size+1,4,none⟩ (.bool true)) (w.heap.size+1) [J Z ((ar:Int)+1),J Z ((su:Int)+(n:Int)),J Z ((sx:Int)+(m1:Int)),J Z ((sy:Int)+(m2:Int)),.bool (false || eE f p)] 163):=yz (by rw[yx HV];exact(yx HQ2).set 4 (.bool true));have HS3:=yz ((yx HS2).other ⟨w.heap.size+1,4,none⟩ (.bool true) (Ne.symm lbs));have HL3:=yz (Blk.other (yx HL2) ⟨w.heap.size+1,4,none⟩ (.bool true) (Ne.symm lbx));have HR3:=yz ((yx HR2).other ⟨w.heap.size+1,4,none⟩ (.bool true) (show w.heap.size≠w.heap.size+1 by omega));have HO3:=yz (fD (yx HO2) (a:=⟨w.heap.size+1,4,none⟩) (.bool true) (show w.heap.size+1<w.heap.size+2 by omega));have HG3:=yz (dK (yx HG2) (a:=⟨w.heap.size+1,4,none⟩) (show w.heap.size≤w.heap.size+1 by omega) (.bool true));go_wp2_with fail;go_meet
        case rel=>exact⟨rfl,HQ3,HS3,HL3,HR3,HO3,HG3⟩
       ·have kb2:((c:Int)==(wd:Int)-1)=false:=by simp;omega
        have K2:=yz k2;clear k2;by_cases k3:r=ht-1
        ·have kb3:((r:Int)==(ht:Int)-1)=true:=by simp;omega
         have K3:=yz k3;clear k3;have HV:Hid ((false || eE f p)=true):=yz (by rw[yx HED];simp[yx K3]);have HQ3:Hid (Blk (W2.setCell ⟨w.heap.size+1,4,none⟩ (.bool true)) (w.heap.size+1) [J Z ((ar:Int)+1),J Z ((su:Int)+(n:Int)),J Z ((sx:Int)+(m1:Int)),J Z ((sy:Int)+(m2:Int)),.bool (false || eE f p)] 163):=yz (by rw[yx HV];exact(yx HQ2).set 4 (.bool true));have HS3:=yz ((yx HS2).other ⟨w.heap.size+1,4,none⟩ (.bool true) (Ne.symm lbs));have HL3:=yz (Blk.other (yx HL2) ⟨w.heap.size+1,4,none⟩ (.bool true) (Ne.symm lbx));have HR3:=yz ((yx HR2).other ⟨w.heap.size+1,4,none⟩ (.bool true) (show w.heap.size≠w.heap.size+1 by omega));have HO3:=yz (fD (yx HO2) (a:=⟨w.heap.size+1,4,none⟩) (.bool true) (show w.heap.size+1<w.heap.size+2 by omega));have HG3:=yz (dK (yx HG2) (a:=⟨w.heap.size+1,4,none⟩) (show w.heap.size≤w.heap.size+1 by omega) (.bool true));go_wp2_with fail;go_meet
         case rel=>exact⟨rfl,HQ3,HS3,HL3,HR3,HO3,HG3⟩
        ·have kb3:((r:Int)==(ht:Int)-1)=false:=by simp;omega
         have K3:=yz k3;clear k3;have HV:Hid ((false || eE f p)=false):=yz (by rw[yx HED];simp[yx K0,yx K1,yx K2,yx K3]);have HQ3:Hid (Blk (W2.setCell ⟨w.heap.size+1,4,none⟩ (.bool false)) (w.heap.size+1) [J Z ((ar:Int)+1),J Z ((su:Int)+(n:Int)),J Z ((sx:Int)+(m1:Int)),J Z ((sy:Int)+(m2:Int)),.bool (false || eE f p)] 163):=yz (by rw[yx HV];exact(yx HQ2).set 4 (.bool false));have HS3:=yz ((yx HS2).other ⟨w.heap.size+1,4,none⟩ (.bool false) (Ne.symm lbs));have HL3:=yz (Blk.other (yx HL2) ⟨w.heap.size+1,4,none⟩ (.bool false) (Ne.symm lbx));have HR3:=yz ((yx HR2).other ⟨w.heap.size+1,4,none⟩ (.bool false) (show w.heap.size≠w.heap.size+1 by omega));have HO3:=yz (fD (yx HO2) (a:=⟨w.heap.size+1,4,none⟩) (.bool false) (show w.heap.size+1<w.heap.size+2 by omega));have HG3:=yz (dK (yx HG2) (a:=⟨w.heap.size+1,4,none⟩) (show w.heap.size≤w.heap.size+1 by omega) (.bool false));go_wp2_with fail;go_meet
         case rel=>exact⟨rfl,HQ3,HS3,HL3,HR3,HO3,HG3⟩
   case rest=>
   obtain⟨hv8,HQ3,HS3,HL3,HR3,HO3,HG3⟩:=hcut;subst hv8;clear HQ2 HS2 HL2 HR2 HO2 HG2 HED;obtain⟨BL,hBL⟩:∃BL:List Value,BL=[J Z ((ar:Int)+1),J Z ((su:Int)+(n:Int)),J Z ((sx:Int)+(m1:Int)),J Z ((sy:Int)+(m2:Int)),.bool (ed || eE f p)]:=⟨_,rfl⟩
   rw[←hBL]at HQ3;have HBL:=yz hBL;clear hBL;have ST0:ei w wc xb sb wd ht s lv T1 BL (.slice (some ⟨g,0,none⟩) A.length cap) A:=⟨yx HQ3,yx HS3,yx HL3,yx HR3,yx HO3,yx HG3⟩
   have hlo1:w.heap.size+1<wc.heap.size:=(yx HQ3).lt;have hlo2:sb<wc.heap.size:=bI.lt (yx HS3);have hlo3:xb<wc.heap.size:=Blk.lt (yx HL3);have hlo4:∀q,(Value.slice (some ⟨g,0,none⟩) A.length cap).ownBlock=some q→q<wc.heap.size:=fun q e=>((yx HO3).lt q e).2;have HST:=yz (ST0.kept (ak wc (.cells #[] 2)));have HN0:=yz (FO wc wc.heap.size (Nat.le_refl _));have hlow0:wc.heap.size≤(wc.alloc (.cells #[] 2)).heap.size:=by simp
   clear HQ3 HS3 HL3 HR3 HO3 HG3 ST0;go_upto_if 107 with fail;generalize hlo:wc.heap.size=lo at *;clear hlo;have hlo4':=yz hlo4;clear hlo4;have hlo4:=hlo4';clear hlo4';obtain⟨N,hN⟩:∃N:List Nat,N=[]:=⟨_,rfl⟩
   have HN:Hid ((wc.alloc (.cells #[] 2)).ownsRow lo 2 1 (.slice (some ⟨lo,0,none⟩) 0 0) N.length (nums N)):=yz (by rw[hN];exact yx HN0);have hNl:N.length≤0:=by rw[hN];exact Nat.le_refl _
   have HNe2:=yz hN;clear hN HN0;have hlow:=hlow0;clear hlow0;generalize wc.alloc (.cells #[] 2)=W3 at HN HST hlow ⊢;go_cut [14] from 35 to 167 (fun v wx=>∃N:List Nat,N=([] ++ (if 0<c then [p-1] else []))∧N.length≤1∧Hid (wx.ownsRow lo 2 1 v N.length (nums N))∧Hid (ei w wx xb sb wd ht s lv T1 BL (.slice (some ⟨g,0,none⟩) A.length cap) A)∧lo≤wx.heap.size)
   case first=>
    by_cases kc:0<c
    ·have kc2:(0:Int)<(c:Int):=by omega
     have Z1:=ak W3 (.cells #[J Z ((p:Int)-1)] 2);have hown:=aW (yx HN) Z1;have G1:=(yx HST).kept Z1;clear Z1;go_wp2_with (at_builtin;refine wpList_append_own _ rfl _ _ 188 rfl lo 2 i0 (J Z 0) 1 8 Tryz.underlying188 hinf hz0 hz1 hz2 rfl (by decide) _ _ _ rfl hown ⟨W3.heap.size,0,none⟩ 1 1 [J Z ((p:Int)-1)] rfl rfl ?d2 (fun u hu=>by rw[List.mem_singleton.1 hu];rfl) ?d3 ?d4 ?d5 ?_)
     case d2=>first | exact fun j u h=>h | exact nL _ _ _
     case d3=>omega
     case d4=>omega
     case d5=>first | omega | (simp;omega)
     intro v7 V7 hown7 hgrow7 _;have G2:=yz (G1.byRow hgrow7 (fun q e=>(hown.lt q e).1) hlo1 hlo2 hlo3 (yx hlo4));have hsz:=hgrow7.size
     have N2:Hid (V7.ownsRow lo 2 1 v7 (N ++ [p-1]).length (nums (N ++ [p-1]))):=yz (by
      rw[lp,List.length_append]
      have e:nums [p-1]=[J Z ((p:Int)-1)]:=by
       show [Value.int .i64 ((p-1:Nat):Int)]=_
       first | rfl | (congr 2;omega)
      rw[e]
      exact hown7)
     clear hown7 hgrow7 hown G1;go_wp2_with fail;go_meet
     case rel=>exact⟨N ++ [p-1],by rw[if_pos kc,yx HNe2],by rw[List.length_append];show N.length+1≤_;omega,N2,G2,by simp at hsz;omega⟩
    ·have kc2:¬(0:Int)<(c:Int):=by omega
     go_wp2_with fail;go_meet
     case rel=>exact⟨N,by rw[if_neg kc,List.append_nil,yx HNe2],by omega,HN,HST,hlow⟩
   case rest=>
   obtain⟨N',hN',hNl',HN',HST',hlow'⟩:=hcut;clear HN HST HNe2 hNl hlow;have HNe2:=yz hN';have hNl:=hNl';have HN:=HN';have HST:=HST';have hlow:=hlow';clear hN' hNl' HN' HST' hlow' N W3;generalize N'=N at *;generalize wc=W3 at *;go_upto_if 116 with fail;go_cut [14] from 35 to 167 (fun v wx=>∃N:List Nat,N=(([] ++ (if 0<c then [p-1] else [])) ++ (if c<wd-1 then [p+1] else []))∧N.length≤2∧Hid (wx.ownsRow lo 2 1 v N.length (nums N))∧Hid (ei w wx xb sb wd ht s lv T1 BL (.slice (some ⟨g,0,none⟩) A.length cap) A)∧lo≤wx.heap.size)
   case first=>
    by_cases kc:c<wd-1
    ·have kc2:(c:Int)<(wd:Int)-1:=by omega
     have Z1:=ak W3 (.cells #[J Z ((p:Int)+1)] 2);have hown:=aW (yx HN) Z1;have G1:=(yx HST).kept Z1;clear Z1;go_wp2_with (at_builtin;refine wpList_append_own _ rfl _ _ 188 rfl lo 2 i0 (J Z 0) 1 8 Tryz.underlying188 hinf hz0 hz1 hz2 rfl (by decide) _ _ _ rfl hown ⟨W3.heap.size,0,none⟩ 1 1 [J Z ((p:Int)+1)] rfl rfl ?d2 (fun u hu=>by rw[List.mem_singleton.1 hu];rfl) ?d3 ?d4 ?d5 ?_)
     case d2=>first | exact fun j u h=>h | exact nL _ _ _
     case d3=>omega
     case d4=>omega
     case d5=>first | omega | (simp;omega)
     intro v7 V7 hown7 hgrow7 _;have G2:=yz (G1.byRow hgrow7 (fun q e=>(hown.lt q e).1) hlo1 hlo2 hlo3 (yx hlo4));have hsz:=hgrow7.size
     have N2:Hid (V7.ownsRow lo 2 1 v7 (N ++ [p+1]).length (nums (N ++ [p+1]))):=yz (by
      rw[lp,List.length_append]
      have e:nums [p+1]=[J Z ((p:Int)+1)]:=by
       show [Value.int .i64 ((p+1:Nat):Int)]=_
       first | rfl | (congr 2;omega)
      rw[e]
      exact hown7)
     clear hown7 hgrow7 hown G1;go_wp2_with fail;go_meet
     case rel=>exact⟨N ++ [p+1],by rw[if_pos kc,yx HNe2],by rw[List.length_append];show N.length+1≤_;omega,N2,G2,by simp at hsz;omega⟩
    ·have kc2:¬(c:Int)<(wd:Int)-1:=by omega
     go_wp2_with fail;go_meet
     case rel=>exact⟨N,by rw[if_neg kc,List.append_nil,yx HNe2],by omega,HN,HST,hlow⟩
   case rest=>
   obtain⟨N',hN',hNl',HN',HST',hlow'⟩:=hcut;clear HN HST HNe2 hNl hlow;have HNe2:=yz hN';have hNl:=hNl';have HN:=HN';have HST:=HST';have hlow:=hlow';clear hN' hNl' HN' HST' hlow' N W3;generalize N'=N at *;generalize wc=W3 at *;go_upto_if 123 with fail;go_cut [14] from 35 to 167 (fun v wx=>∃N:List Nat,N=((([] ++ (if 0<c then [p-1] else [])) ++ (if c<wd-1 then [p+1] else [])) ++ (if 0<r then [p-wd] else []))∧N.length≤3∧Hid (wx.ownsRow lo 2 1 v N.length (nums N))∧Hid (ei w wx xb sb wd ht s lv T1 BL (.slice (some ⟨g,0,none⟩) A.length cap) A)∧lo≤wx.heap.size)
   case first=>
    by_cases kc:0<r
    ·have kc2:(0:Int)<(r:Int):=by omega
     have Z1:=ak W3 (.cells #[J Z ((p:Int)-(wd:Int))] 2);have hown:=aW (yx HN) Z1;have G1:=(yx HST).kept Z1;clear Z1;go_wp2_with (at_builtin;refine wpList_append_own _ rfl _ _ 188 rfl lo 2 i0 (J Z 0) 1 8 Tryz.underlying188 hinf hz0 hz1 hz2 rfl (by decide) _ _ _ rfl hown ⟨W3.heap.size,0,none⟩ 1 1 [J Z ((p:Int)-(wd:Int))] rfl rfl ?d2 (fun u hu=>by rw[List.mem_singleton.1 hu];rfl) ?d3 ?d4 ?d5 ?_)
     case d2=>first | exact fun j u h=>h | exact nL _ _ _
     case d3=>omega
     case d4=>omega
     case d5=>first | omega | (simp;omega)
     intro v7 V7 hown7 hgrow7 _;have G2:=yz (G1.byRow hgrow7 (fun q e=>(hown.lt q e).1) hlo1 hlo2 hlo3 (yx hlo4));have hsz:=hgrow7.size
     have N2:Hid (V7.ownsRow lo 2 1 v7 (N ++ [p-wd]).length (nums (N ++ [p-wd]))):=yz (by
      rw[lp,List.length_append]
      have e:nums [p-wd]=[J Z ((p:Int)-(wd:Int))]:=by
       show [Value.int .i64 ((p-wd:Nat):Int)]=_
       first | rfl | (congr 2;omega)
      rw[e]
      exact hown7)
     clear hown7 hgrow7 hown G1;go_wp2_with fail;go_meet
     case rel=>exact⟨N ++ [p-wd],by rw[if_pos kc,yx HNe2],by rw[List.length_append];show N.length+1≤_;omega,N2,G2,by simp at hsz;omega⟩
    ·have kc2:¬(0:Int)<(r:Int):=by omega
     go_wp2_with fail;go_meet
     case rel=>exact⟨N,by rw[if_neg kc,List.append_nil,yx HNe2],by omega,HN,HST,hlow⟩
   case rest=>
   obtain⟨N',hN',hNl',HN',HST',hlow'⟩:=hcut;clear HN HST HNe2 hNl hlow;have HNe2:=yz hN';have hNl:=hNl';have HN:=HN';have HST:=HST';have hlow:=hlow';clear hN' hNl' HN' HST' hlow' N W3;generalize N'=N at *;generalize wc=W3 at *;go_upto_if 133 with fail;go_cut [14] from 35 to 167 (fun v wx=>∃N:List Nat,N=(((([] ++ (if 0<c then [p-1] else [])) ++ (if c<wd-1 then [p+1] else [])) ++ (if 0<r then [p-wd] else [])) ++ (if r<ht-1 then [p+wd] else []))∧N.length≤4∧Hid (wx.ownsRow lo 2 1 v N.length (nums N))∧Hid (ei w wx xb sb wd ht s lv T1 BL (.slice (some ⟨g,0,none⟩) A.length cap) A)∧lo≤wx.heap.size)
   case first=>
    by_cases kc:r<ht-1
    ·have kc2:(r:Int)<(ht:Int)-1:=by omega
     have Z1:=ak W3 (.cells #[J Z ((p:Int)+(wd:Int))] 2);have hown:=aW (yx HN) Z1;have G1:=(yx HST).kept Z1;clear Z1;go_wp2_with (at_builtin;refine wpList_append_own _ rfl _ _ 188 rfl lo 2 i0 (J Z 0) 1 8 Tryz.underlying188 hinf hz0 hz1 hz2 rfl (by decide) _ _ _ rfl hown ⟨W3.heap.size,0,none⟩ 1 1 [J Z ((p:Int)+(wd:Int))] rfl rfl ?d2 (fun u hu=>by rw[List.mem_singleton.1 hu];rfl) ?d3 ?d4 ?d5 ?_)
     case d2=>first | exact fun j u h=>h | exact nL _ _ _
     case d3=>omega
     case d4=>omega
     case d5=>first | omega | (simp;omega)
     intro v7 V7 hown7 hgrow7 _;have G2:=yz (G1.byRow hgrow7 (fun q e=>(hown.lt q e).1) hlo1 hlo2 hlo3 (yx hlo4));have hsz:=hgrow7.size
     have N2:Hid (V7.ownsRow lo 2 1 v7 (N ++ [p+wd]).length (nums (N ++ [p+wd]))):=yz (by
      rw[lp,List.length_append]
      have e:nums [p+wd]=[J Z ((p:Int)+(wd:Int))]:=by
       show [Value.int .i64 ((p+wd:Nat):Int)]=_
       first | rfl | (congr 2;omega)
      rw[e]
      exact hown7)
     clear hown7 hgrow7 hown G1;go_wp2_with fail;go_meet
     case rel=>exact⟨N ++ [p+wd],by rw[if_pos kc,yx HNe2],by rw[List.length_append];show N.length+1≤_;omega,N2,G2,by simp at hsz;omega⟩
    ·have kc2:¬(r:Int)<(ht:Int)-1:=by omega
     go_wp2_with fail;go_meet
     case rel=>exact⟨N,by rw[if_neg kc,List.append_nil,yx HNe2],by omega,HN,HST,hlow⟩
   case rest=>
   obtain⟨N',hN',hNl',HN',HST',hlow'⟩:=hcut;clear HN HST HNe2 hNl hlow;have HNe2:=yz hN';have hNl:=hNl';have HN:=HN';have HST:=HST';have hlow:=hlow';clear hN' hNl' HN' HST' hlow' N W3;generalize N'=N at *;generalize wc=W3 at *
   have HNN:Hid (jA f p=N):=yz (by
    rw[Fq f p c r (by rw[←yx HF];exact yx HCe) (by rw[←yx HF];exact yx HRe),yx HNe2,←yx HF]
    rfl)
   have HNin:Hid (∀j,j<N.length→N.getD j 0<s.size):=yz (fun j hj=>by
    have h:=sf (f:=f) (i:=p) (by rw[yx HFN];exact hpl) (N.getD j 0) (by rw[yx HNN,List.getD,List.getElem?_eq_getElem hj];exact List.getElem_mem hj);rw[yx HFN]at h
    exact h)
   have HPL:Hid (∀j,(fq f (T1,A) (N.take j)).2.length≤s.size):=yz (fun j=>by
    have h:=ss (f:=f) (c:=cnt T f.n) (N.take j) (s:=(T1,A)) (by have:=yx HGood k;rw[yx HGe]at this;exact this) (fun q hq=>sf (f:=f) (i:=p) (by rw[yx HFN];exact hpl) q (by rw[yx HNN];exact List.mem_of_mem_take hq));have:=h.len;rw[yx HFN]at this
    omega)
   have HNE:Hid (∀q,(Value.slice (some ⟨g,0,none⟩) A.length cap).ownBlock=some q→u14.ownBlock=some q→False):=yz (fun q e1 e2=>by
    have h1:=yx hlo4 q e1;have h2:=((yx HN).lt q e2).1
    omega)
   have HST0:Hid (ei w W3 xb sb wd ht s lv (fq f (T1,A) (N.take 0)).1 BL (.slice (some ⟨g,0,none⟩) A.length cap) (fq f (T1,A) (N.take 0)).2):=HST;clear HST;go_wp2_with fail;go_loopw [8,15] (fun v jj wr=>∃j:Nat,j≤N.length∧jj=J Z j∧Hid (ei w wr xb sb wd ht s lv (fq f (T1,A) (N.take j)).1 BL v (fq f (T1,A) (N.take j)).2)∧Hid (wr.ownsRow lo 2 1 u14 N.length (nums N))∧Hid (∀q,v.ownBlock=some q→u14.ownBlock=some q→False)) (fun _ jj _=>N.length-(intOf jj).toNat)
   case atStart=>exact⟨0,Nat.zero_le _,rfl,HST0,HN,HNE⟩
   case round=>
    clear HST0 HN HNE;obtain⟨j,hj,rfl,HST,HN,HNE⟩:=hrel;by_cases hjn:j<N.length
    ·have hq:=yx HNin j hjn
     have HPS:Hid (fq f (T1,A) (N.take (j+1))=jw f (fq f (T1,A) (N.take j)) (N.getD j 0)):=yz (by
      rw[List.take_succ_eq_append_getElem hjn,List.getD,List.getElem?_eq_getElem hjn];unfold fq;rw[List.foldl_append]
      rfl)
     have hAl:=yx HPL j;obtain⟨nb,ncap,hv14,hnb,hcells⟩:=yH (yx HN) (by omega);have cn:=hcells j _ (qG _ j hjn);clear hcells;subst hv14;generalize hGe2:fq f (T1,A) (N.take j)=G2 at *;clear hGe2;obtain⟨T2,A2⟩:=G2;simp only at HST hAl;obtain⟨q,hqe⟩:∃q,q=N.getD j 0:=⟨_,rfl⟩
     rw[←hqe]at hq HPS cn;have HQe:=yz hqe;clear hqe;have hj2:(j:Int)<(N.length:Int):=by omega
     have hq2:(q:Int)<(s.size:Int):=by omega
     have hq0:(0:Int)≤(q:Int):=by omega
     go_wp2_with fail;refine(pU wd ht s lv xb sb s.size q T2 _ rfl hq (yx HST).look (yx HST).seen).mono ?_;rintro e W4 ⟨rfl,hx⟩;rw[yx HF];have HST2:=an HST hx;have HN2:=yz (aW (yx HN) hx);have hnbl:=((yx HN2).lt nb rfl).2;clear HST HN hx cn;cases hl:kQ f T2 q
     ·have HP2:Hid (fq f (T1,A) (N.take (j+1))=(T2,A2)):=yz (by rw[yx HPS];unfold jw;rw[if_neg (by simp[hl])]);have HST3:Hid (ei w W4 xb sb wd ht s lv (fq f (T1,A) (N.take (j+1))).1 BL u8 (fq f (T1,A) (N.take (j+1))).2):=yz (by rw[yx HP2];exact yx HST2);go_wp2_with fail;go_roundw
      case rel=>exact⟨j+1,by omega,by go_num,HST3,HN2,HNE⟩
      case measure=>simp[intOf]<;>omega
     ·have HP2:Hid (fq f (T1,A) (N.take (j+1))=(mark T2 q,A2 ++ [q])):=yz (by rw[yx HPS];unfold jw;rw[if_pos hl]);clear hl HPS;have cn:W4.cell? ⟨nb,j,none⟩=some (J Z (q:Int)):=by rw[(yx HN2).cellAt j (by omega),qG _ j hjn,←yx HQe]
      have c4:=(yx HST2).look.cell 4 _ rfl;have d0:=(yx HST2).seen.cell hq;have df:=(yx HST2).seen.free q;have HST3:=yz ((yx HST2).mark hq hxs ls lx);have HN3:Hid ((W4.setCell ⟨sb,q,none⟩ (.bool true)).drew.ownsRow lo 2 1 (.slice (some ⟨nb,0,none⟩) N.length ncap) N.length (nums N)):=yz (FL (fD (yx HN2) (a:=⟨sb,q,none⟩) (.bool true) hlo2));have hlow4:lo≤W4.heap.size:=by omega
      go_upto_region 31 with fail;go_region
      generalize (W4.setCell ⟨sb,q,none⟩ (.bool true)).drew=W5 at HST3 HN3 ⊢;clear cn c4 d0 df HST2 HN2;have cn:W5.cell? ⟨nb,j,none⟩=some (J Z (q:Int)):=by rw[(yx HN3).cellAt j (by omega),qG _ j hjn,←yx HQe]
      have Z1:=ak W5 (.cells #[J Z (q:Int)] 2);have ST6:=(yx HST3).kept Z1;have HN6:=aW (yx HN3) Z1;have hl5:=((yx HN3).lt nb rfl)
      have hz5:=(yx HST3).blob.lt;clear Z1;have hown:=ST6.all;have HP2':=HP2;go_wp2_with (at_builtin;refine wpList_append_own_at _ rfl _ _ 188 rfl (w.heap.size+2) 2 i0 (J Z 0) 1 8 Tryz.underlying188 hinf hz0 hz1 hz2 rfl (by decide) _ _ _ rfl hown ⟨W5.heap.size,0,none⟩ 1 1 [J Z (q:Int)] rfl rfl ?d2 (fun u hu=>by rw[List.mem_singleton.1 hu];rfl) ?d3 ?d4 ?d5 ?_)
      case d2=>first | exact fun j u h=>h | exact nL _ _ _
      case d3=>omega
      case d4=>omega
      case d5=>first | omega | (simp;omega)
      intro v7 V7 hown7 hgrow7 _ hob;have ST7:=ST6.appended (q:=q) hgrow7 hown7 ls lx
      have HN7:=yz (HN6.kept hgrow7 (by
       cases hv:u8.ownBlock with
       | none=>exact .inr (by simp[Value.ownBlock])
       | some z=>exact .inr (fun e=>yx HNE z hv e)))
      have HNE7:Hid (∀z,v7.ownBlock=some z→(Value.slice (some ⟨nb,0,none⟩) N.length ncap).ownBlock=some z→False):=yz (fun z e1 e2=>by
       rcases hob with h | h
       ·exact yx HNE z (by rw[←h];exact e1) e2
       ·rw[e1]at h;have h:=Option.some.inj h;have e2:nb=z:=by simpa[Value.ownBlock] using e2
        have:z=W5.heap.size+1:=by simpa using h
        omega)
      have HST7:Hid (ei w V7 xb sb wd ht s lv (fq f (T1,A) (N.take (j+1))).1 BL v7 (fq f (T1,A) (N.take (j+1))).2):=yz (by rw[yx HP2];exact ST7);clear hown7 hgrow7 hob ST7 ST6 hown HN6 cn;go_wp2_with fail;go_roundw
      case rel=>exact⟨j+1,by omega,by go_num,HST7,HN7,HNE7⟩
      case measure=>simp[intOf]<;>omega
    ·have hje:j=N.length:=by omega
     have HEQ:Hid (aV f T i (k+1)=fq f (T1,A) (N.take j)):=yz (by rw[yx HNX,yx HNN,hje,List.take_length]);have HPre:Hid (A <+: (aV f T i (k+1)).2):=yz (by have:=uE f T i k;rw[yx HGe]at this;exact this)
     have hlen1:k+1≤(aV f T i (k+1)).2.length:=by
      have:=(yx HPre).length_le;omega
     have HBB:Hid (it (gw f ((aV f T i (k+1)).2.take (k+1)))=BL):=yz (by
      have e1:(aV f T i (k+1)).2.take (k+1)=A.take (k+1):=by
       obtain⟨tl,htl⟩:=yx HPre;rw[←htl,List.take_append_of_le_length (by omega)]
      rw[e1,yx HTK,vq,yx HBe,yx HBL,yx HM1,yx HM2,yx HNe,yx HCe,yx HRe,←yx HF];unfold it tv ic
      simp)
     rw[←yx HEQ]at HST;have HO8:=yz (yx HST).all;have HS8:=yz (yx HST).seen;have HL8:=yz (yx HST).look;have HR8:=yz (yx HST).res;have HG8:=yz (yx HST).grown;have HQ8:Hid (Blk wr (w.heap.size+1) (it (gw f ((aV f T i (k+1)).2.take (k+1)))) 163):=yz (by rw[yx HBB];exact(yx HST).blob);obtain⟨a14,cap14,hv14⟩:=bM (yx HN);subst hv14;have hjj:¬(j:Int)<(N.length:Int):=by omega
     clear HST HN HNE;go_wp2_with fail;go_roundw
     case rel=>exact⟨k+1,hlen1,by go_num,HO8,HS8,HL8,HQ8,HR8,HG8⟩
     case measure=>simp[intOf]<;>omega
  ·have hke:(aV f T i k).2.length≤k:=by omega
   have HEnd:Hid (aV f T i k=fN f T i):=yz (uo (by rw[yx HFN];exact hi) (yx HT) hke (by rw[yx HFN];omega));have HTk:Hid ((aV f T i k).2.take k=(aV f T i k).2):=yz (List.take_of_length_le hke);rw[yx HTk,yx HEnd]at HQ;rw[yx HEnd]at HS;have HRes:Hid (it (gw f (fN f T i).2)=it (gw f (fN f T i).2)):=yz rfl;obtain⟨a8,cap8,hv8⟩:=bM (yx HO);have hkk:¬(k:Int)<((aV f T i k).2.length:Int):=by omega
   subst hv8;generalize hbe:gw f (fN f T i).2=b at *;have HBq:=yz hbe;clear hbe;obtain⟨ar,su,sx,sy,ed⟩:=b;obtain⟨q0,q1,q2,q3,q4⟩:=gL (yx HQ);obtain⟨r0,r1,r2,r3,r4⟩:=gL (yx HR);have g0:=qa (yx HR);simp only at q0 q1 q2 q3 q4;go_wp2_with fail;refine bodyPost_ret (v:=.agg #[J Z ar,J Z su,J Z sx,J Z sy,.bool ed]) (by simp[results,Tryz.results146,go_sem,r0,r1,r2,r3,r4]) rfl ⟨by rw[yx HF,yx HBq];rfl,?_,?_⟩
   ·rw[yx HF];exact((((bI.other (yx HS) ⟨w.heap.size,0,none⟩ _ (show sb≠w.heap.size by omega)).other ⟨w.heap.size,1,none⟩ _ (show sb≠w.heap.size by omega)).other ⟨w.heap.size,2,none⟩ _ (show sb≠w.heap.size by omega)).other ⟨w.heap.size,3,none⟩ _ (show sb≠w.heap.size by omega)).other ⟨w.heap.size,4,none⟩ _ (show sb≠w.heap.size by omega)
   ·exact dK (dK (dK (dK (dK (yx HG) (Nat.le_refl _) _) (Nat.le_refl _) _) (Nat.le_refl _) _) (Nat.le_refl _) _) (Nat.le_refl _) _
end
end Go.Proofs.YteoonaanoenjiaaGreatDoor
