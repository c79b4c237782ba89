/- Several texts in one: TfM, DsB, DsC, DeskA. -/
import Derived.Test.YtdchjcadhlkpfaaGreatDoorD11
namespace Go.Proofs.YtdchjcadhlkpfaaGreatDoor
set_option linter.unusedVariables false
set_option linter.unusedSimpArgs false
set_option maxRecDepth 100000
set_option maxHeartbeats 8000000
section
open Go.RowKit
def dT(t:T4)(s:Sg):Bool:=bY s.1 (apD t.1 t.2.1 t.2.2.1 t.2.2.2 s.2.2)
def dK(A:List Sg)(t:T4):Bool:=A.all (dT t)
theorem CI{A:List Sg}{t:T4}(h:∀i,i<A.length→dT t (sgA A i)=true):dK A t=true:=by
 unfold dK;rw[←jL,List.all_eq_true];exact fun i hi=>h i (List.mem_range.1 hi)
variable {ids:List Int} {i:Nat}
theorem EC{A:List Sg}{t:T4}(hi:i<A.length)(h:dT t (sgA A i)=false):dK A t=false:=by
 unfold dK;rw[←jL,List.all_eq_false];exact⟨i,List.mem_range.2 hi,by rw[h];simp⟩
def fF(A:List Sg)(T:List T4):T4×Int:=match T.find? (dK A) with | some t=>(t,0) | none=>((0,0,0,0),6)
theorem zF{T:List T4}{k:Nat}(hk:k<T.length):T[k]? = some (tA T k):=by unfold tA;rw[List.getD_eq_getElem?_getD,List.getElem?_eq_getElem hk];rfl
theorem ww{A:List Sg}{T:List T4}{k:Nat}(hk:k<T.length)(h:∀j,j<k→dK A (tA T j)=false)(h1:dK A (tA T k)=true):fF A T=(tA T k,0):=by
 unfold fF
 have:T.find? (dK A)=some (tA T k):=by
  rw[List.find?_eq_some_iff_getElem];refine⟨h1,k,hk,?_,fun j hj=>?_⟩
  ·have:=zF hk;rw[List.getElem?_eq_getElem hk]at this;exact Option.some.inj this
  ·have e:=zF (T:=T) (k:=j) (by omega);rw[List.getElem?_eq_getElem (by omega)]at e;rw[Option.some.inj e,h j hj];rfl
 rw[this]
theorem qy{A:List Sg}{T:List T4}(h:∀j,j<T.length→dK A (tA T j)=false):fF A T=((0,0,0,0),6):=by
 unfold fF
 have:T.find? (dK A)=none:=by
  rw[List.find?_eq_none];intro x hx;obtain⟨j,hj,rfl⟩:=List.getElem_of_mem hx;have e:=zF (T:=T) (k:=j) hj;rw[List.getElem?_eq_getElem hj]at e;rw[Option.some.inj e,h j hj];simp
 rw[this]
def jw(L:List St)(S:List D3)(ids:List Int):T4×Int:=
 if 400<L.length∨400<S.length∨400<ids.length then ((0,0,0,0),2)
 else if bL L S ids=true then (if (az L S ids ids.length).length<2 then ((0,0,0,0),10) else fF (az L S ids ids.length) (aB 625))
 else ((0,0,0,0),1)
theorem CO{L:List St}{S:List D3}(h:400<L.length∨400<S.length∨400<ids.length):jw L S ids=((0,0,0,0),2):=by unfold jw;rw[if_pos h]
theorem CN{L:List St}{S:List D3}(h:¬(400<L.length∨400<S.length∨400<ids.length))(h1:bL L S ids=false):jw L S ids=((0,0,0,0),1):=by unfold jw;rw[if_neg h,h1];rfl
theorem EF{L:List St}{S:List D3}(h:¬(400<L.length∨400<S.length∨400<ids.length))(h1:bL L S ids=true)(h2:(az L S ids ids.length).length<2):jw L S ids=((0,0,0,0),10):=by unfold jw;rw[if_neg h,if_pos h1,if_pos h2]
theorem AS{L:List St}{S:List D3}(h:¬(400<L.length∨400<S.length∨400<ids.length))(h1:bL L S ids=true)(h2:¬(az L S ids ids.length).length<2):jw L S ids=fF (az L S ids ids.length) (aB 625):=by unfold jw;rw[if_neg h,if_pos h1,if_neg h2]
theorem ge{L:List St}{S:List D3}(h:bL L S ids=true):bc L=true∧ba S=true∧ids.length=S.length∧eW (az L S ids ids.length) (az L S ids ids.length).length=true:=by
 unfold bL at h;simp only[Bool.and_eq_true,decide_eq_true_eq]at h;exact⟨h.1.1.1,h.1.1.2,h.1.2,h.2⟩
theorem BQ{L:List St}{S:List D3}{n:Nat}(hi:i<(az L S ids n).length):∃j,j<n∧ids.getD j 0≠0∧sgA (az L S ids n) i=bW L S ids j:=by
 have hm:sgA (az L S ids n) i∈az L S ids n:=by
  unfold sgA;rw[List.getD_eq_getElem?_getD,List.getElem?_eq_getElem hi];exact List.getElem_mem hi
 generalize sgA (az L S ids n) i=s at hm ⊢;unfold az at hm;rw[List.mem_map]at hm;obtain⟨j,hj,rfl⟩:=hm;rw[List.mem_filter]at hj;exact⟨j,List.mem_range.1 hj.1,of_decide_eq_true hj.2,rfl⟩
theorem xW{L:List St}{S:List D3}(h:bL L S ids=true){i:Nat}(hi:i<(az L S ids ids.length).length):aU (sgA (az L S ids ids.length) i).2.2.1 (sgA (az L S ids ids.length) i).2.2.2.1 (sgA (az L S ids ids.length) i).2.2.2.2=true:=by
 obtain⟨h1,h2,h3,h4⟩:=ge h;unfold eW at h4;have h5:=List.all_eq_true.1 h4 i (List.mem_range.2 hi);rw[Bool.and_eq_true]at h5;obtain⟨j,hj,h0,e⟩:=BQ hi;rw[e]at h5 ⊢;exact wh h1 (by have h6:=h5.1;rw[Bool.not_eq_true']at h6;exact h6)
theorem zh{L:List St}{S:List D3}(h:bL L S ids=true){j:Nat}(hj:j<ids.length)(h0:ids.getD j 0≠0):aU (atV L L.length (ids.getD j 0)).1 (atV L L.length (ids.getD j 0)).2.1 (atV L L.length (ids.getD j 0)).2.2=true∧jI (vA S j)=true:=by
 obtain⟨h1,h2,h3,h4⟩:=ge h;rw[←rd]at h4;unfold ia at h4;have h5:=List.all_eq_true.1 h4 j (List.mem_range.2 hj);rw[decide_eq_false h0,Bool.false_or,Bool.and_eq_true]at h5;exact⟨wh h1 (by simpa using h5.1),nA ((bS h2).2 j (by omega))⟩
def iw(L:List St)(S:List D3)(ids:List Int)(t:T4)(n:Nat):Bool:=(List.range n).all fun j=>decide (ids.getD j 0=0) || dT t (bW L S ids j)
theorem BZ(L:List St)(S:List D3)(ids:List Int)(t:T4)(n:Nat):iw L S ids t n=dK (az L S ids n) t:=(mB L S ids (dT t) n).symm
theorem zI{L:List St}{S:List D3}{t:T4}{n j:Nat}(hj:j<n)(h:(decide (ids.getD j 0=0) || dT t (bW L S ids j))=false):iw L S ids t n=false:=by
 unfold iw;rw[List.all_eq_false];exact⟨j,List.mem_range.2 hj,by rw[h];simp⟩
theorem yi{L:List St}{S:List D3}{t:T4}{n:Nat}(h:∀j,j<n→(decide (ids.getD j 0=0) || dT t (bW L S ids j))=true):iw L S ids t n=true:=by
 unfold iw;rw[List.all_eq_true];exact fun j hj=>h j (List.mem_range.1 hj)
theorem vp(L:List St)(S:List D3)(ids:List Int)(k:Nat):(az L S ids (k+1)).length=(az L S ids k).length+if ids.getD k 0≠0 then 1 else 0:=by
 rw[gh,List.length_append];split<;>rfl
theorem la{m k:Nat}(hk:k<(aB m).length):aD (tA (aB m) k).1 (tA (aB m) k).2.1 (tA (aB m) k).2.2.1 (tA (aB m) k).2.2.2=true:=by
 have hm:tA (aB m) k∈aB m:=by unfold tA;rw[List.getD_eq_getElem?_getD,List.getElem?_eq_getElem hk];exact List.getElem_mem hk
 generalize tA (aB m) k=t at hm ⊢;unfold aB at hm;exact(List.mem_filter.1 hm).2
theorem rU:0<(aB 625).length:=by
 have h:(tOf 624).1=2:=by decide +kernel
 have hg:pg (tOf 563)=true:=by decide +kernel
 have hm:tOf 563∈aB 625:=by
  unfold aB;rw[List.mem_filter];exact⟨List.mem_map.2 ⟨563,List.mem_range.2 (by omega),rfl⟩,hg⟩
 exact List.length_pos_of_mem hm
end
section
open Go.RowKit
theorem nN{α:Type}{a b:List α}{x y:α}(h:a ++ [x]=b ++ [y]):a=b∧x=y:=by
 have:=List.append_inj' h rfl;exact⟨this.1,by simpa using this.2⟩
theorem DJ(c:UInt8)(l:List UInt8):∃D p,pcs c l=D ++ [p]:=by
 have h:=kj c l;exact⟨(pcs c l).dropLast,(pcs c l).getLast h,(List.dropLast_concat_getLast h).symm⟩
theorem xH{c x:UInt8}:∀ {l:List UInt8} {D:List (List UInt8)} {p:List UInt8},pcs c l=D ++ [p]→pcs c (l ++ [x])=if x=c then D ++ [p,[]] else D ++ [p ++ [x]]
 | [],D,p,h=>by
  have h0:([]:List (List UInt8)) ++ [[]]=D ++ [p]:=h;obtain⟨rfl,rfl⟩:=nN h0;show pcs c [x]=_;rw[pcs];split<;>rfl
 | y :: ys,D,p,h=>by
  obtain⟨D',p',e⟩:=DJ c ys;have ih:=xH (x:=x) e;show pcs c (y :: (ys ++ [x]))=_;rw[pcs,e]at h;rw[pcs,ih];by_cases hy:y=c
  ·rw[if_pos hy]at h ⊢;have h1:([] :: D') ++ [p']=D ++ [p]:=h;obtain⟨rfl,rfl⟩:=nN h1;split<;>rfl
  ·rw[if_neg hy]at h ⊢;cases D' with
   | nil=>
    have h1:([]:List (List UInt8)) ++ [y :: p']=D ++ [p]:=h;obtain⟨rfl,rfl⟩:=nN h1;split<;>rfl
   | cons d D''=>
    have h1:((y :: d) :: D'') ++ [p']=D ++ [p]:=h;obtain⟨rfl,rfl⟩:=nN h1;split<;>rfl
def bT(l:List UInt8):Value:=.string ⟨l.toArray⟩
theorem nf(s:ByteArray)(f k:Nat)(h:k≤s.size):s.extract f k=⟨((s.data.toList.take k).drop f).toArray⟩:=by
 apply ByteArray.ext;apply Array.toList_inj.1;rw[ByteArray.data_extract];simp[List.drop_take]
theorem oC:∃i:TypeInfo,Tryz.prog.info? 9=some i∧i.zero=some (.string ⟨#[]⟩)∧i.size=1∧i.bytes=16:=by
 have h:(Tryz.prog.info? 9).map (fun i=>(i.zero,i.size,i.bytes))=some (some (.string ⟨#[]⟩),1,16):=by kernel_rfl
 cases hi:Tryz.prog.info? 9 with
 | none=>rw[hi]at h;cases h
 | some i=>
  rw[hi]at h;have:=Option.some.inj h;simp only[Prod.mk.injEq]at this;exact⟨i,rfl,this.1,this.2.1,this.2.2⟩
variable {w:World}
theorem mu{B n m:Nat}{t:TypeId}{v:Value}{xs:List Value}(h:w.ownsRow B t m v n xs)(o:Obj):(w.alloc o).ownsRow B t m v n xs:=by
 obtain⟨h1,h2⟩:=h;refine⟨h1,?_⟩;rcases h2 with h2 | ⟨g,c',cur,e,hg,hh,r⟩
 ·exact .inl h2
 ·exact .inr ⟨g,c',cur,e,hg,by rw[(an w o).block g (Array.getElem?_eq_some_iff.1 hh).1];exact hh,r⟩
theorem kB{B:Nat}{w1 w2:World}{row:Option Nat}(h:Below B w w1)(hg:w1.grownBy w2 row)(hB:B≤w1.heap.size)(hr:∀g,row=some g→B≤g):Below B w w2:=
 h.trans ⟨hg.os,hg.tape,hg.output,hg.size,fun k hk=>hg.block k (by omega) (fun e=>by have:=hr k e.symm;omega)⟩
theorem rf(w:World)(v:Value)(t:TypeId)(j:Nat)(u:Value)(h:[v][j]? = some u):(w.alloc (.cells #[v] t)).cell? ((⟨w.heap.size,0,none⟩:Addr).add j)=some u:=by
 have hA:(⟨w.heap.size,0,none⟩:Addr).add j=⟨w.heap.size,j,none⟩:=by unfold Addr.add;split<;>simp_all
 rw[hA,cell_of_row _ _ j #[v] t _ (heap_alloc_new w (.cells #[v] t))];simpa using h
def co(w:World)(B:Nat)(v:Value)(D:List (List UInt8)):Prop:=w.ownsRow B 9 1 v D.length (D.map bT)
theorem cH(s:ByteArray)(c:UInt8)(w:World)(hs:s.size≤8000):
  Calls Tryz.prog 17 #[.string s,.int .u8 (c.toNat:Int)] w fun e w'=>(∃v,e=.returned v∧co w' w.heap.size v (pcs c s.data.toList))∧Below w.heap.size w w':=by
 obtain⟨i0,hi,hz0,hz1,hz2⟩:=oC;have hm8:10000≤maxLen:=by decide +kernel
 have B0:=yz (an w (.cells #[] 9));have O0:Hid (co (w.alloc (.cells #[] 9)) w.heap.size (.slice (some ⟨w.heap.size,0,none⟩) 0 0) []):=yz ⟨rfl,.inr ⟨_,0,#[],rfl,Nat.le_refl _,Array.getElem?_push_size,Nat.le_refl _,Nat.zero_le _,rfl,rfl⟩⟩;go_enter Tryz.func17,Tryz.ntmps17;go_wp2_with fail;go_loopw [5,6,7] (fun v f i wr=>∃(k fr:Nat) (D:List (List UInt8)),k≤s.size∧fr≤k∧D.length≤k∧i=.int .i64 k∧f=.int .i64 fr∧Hid (pcs c (s.data.toList.take k)=D ++ [(s.data.toList.take k).drop fr])∧Hid (co wr w.heap.size v D)∧Hid (Below w.heap.size w wr)) (fun _ _ i _=>s.size-(intOf i).toNat)
 case atStart=>exact⟨0,0,[],by omega,by omega,by simp,rfl,rfl,yz rfl,O0,B0⟩
 case round=>
  clear O0 B0;obtain⟨k,fr,D,hk,hfr,hDl,rfl,rfl,HP,HO,HB⟩:=hrel;by_cases hkn:k<s.size
  ·have hkn2:(k:Int)<(s.size:Int):=by omega
   have HS:=yz (xH (x:=s[k]) (yy HP));rw[←nX s k hkn]at HS;by_cases hc:s[k]=c
   ·have hb:((s[k].toNat:Int)==(c.toNat:Int))=true:=by rw[hc];simp
    have HP2:Hid (pcs c (s.data.toList.take (k+1))=(D ++ [(s.data.toList.take k).drop fr]) ++ [(s.data.toList.take (k+1)).drop (k+1)]):=yz (by
     have e0:(s.data.toList.take (k+1)).drop (k+1)=[]:=List.drop_of_length_le (by rw[List.length_take];exact Nat.min_le_left _ _);rw[yy HS,if_pos hc,e0]
     simp)
    have HX:=yz (nf s fr k hk);have Z1:=an wr (.cells #[.string (s.extract fr k)] 9);have hown:=mu (yy HO) (.cells #[.string (s.extract fr k)] 9);have HB2:=ax HB Z1;have hsz:=(yy HB).size;clear HS HP Z1 HB HO;go_wp2_with (at_builtin;refine wpList_append_own _ rfl _ _ 27 rfl w.heap.size 9 i0 (.string ⟨#[]⟩) 1 16 Tryz.underlying27 hi hz0 hz1 hz2 rfl (by decide) _ _ _ rfl hown ⟨wr.heap.size,0,none⟩ 1 1 [.string (s.extract fr k)] rfl rfl ?d2 (fun u hu=>by simp at hu;subst hu;rfl) ?d3 ?d4 ?d5 ?_)
    case d2=>exact rf _ _ _
    case d3=>omega
    case d4=>omega
    case d5=>simp;omega
    intro v7 V7 hown7 hgrow7 _
    have HO3:Hid (co V7 w.heap.size v7 (D ++ [(s.data.toList.take k).drop fr])):=yz (by
     unfold co;rw[List.map_append,List.length_append];show World.ownsRow _ _ _ _ _ _ (List.map bT D ++ [bT _]);unfold bT;rw[←yy HX]
     exact hown7)
    have HB3:=yz (kB (yy HB2) hgrow7 (by simp;omega) (fun g e=>(hown.lt _ e).1));clear hown7 hgrow7 hown HB2 HX;go_wp2_with fail;go_roundw
    case rel=>exact⟨k+1,k+1,_,by omega,by omega,by simp;omega,by go_num,by go_num,HP2,HO3,HB3⟩
    case measure=>simp[intOf];omega
   ·have hb:((s[k].toNat:Int)==(c.toNat:Int))=false:=by
     have:s[k].toNat≠c.toNat:=fun e=>hc (UInt8.toNat.inj e);simpa using(show (s[k].toNat:Int)≠(c.toNat:Int) by omega)
    have HP2:Hid (pcs c (s.data.toList.take (k+1))=D ++ [(s.data.toList.take (k+1)).drop fr]):=yz (by
     rw[yy HS,if_neg hc,nX s k hkn,List.drop_append_of_le_length (by rw[List.length_take,be,Nat.min_eq_left hk];exact hfr)])
    clear HS HP;go_wp2_with fail;go_roundw
    case rel=>exact⟨k+1,fr,D,by omega,by omega,by omega,by go_num,rfl,HP2,HO,HB⟩
    case measure=>simp[intOf];omega
  ·have hks:k=s.size:=by omega
   subst hks;have HX:=yz (nf s fr s.size hk);have Z1:=an wr (.cells #[.string (s.extract fr s.size)] 9);have hown:=mu (yy HO) (.cells #[.string (s.extract fr s.size)] 9);have HB2:=ax HB Z1;have hsz:=(yy HB).size;clear Z1 HB HO;go_wp2_with (at_builtin;refine wpList_append_own _ rfl _ _ 27 rfl w.heap.size 9 i0 (.string ⟨#[]⟩) 1 16 Tryz.underlying27 hi hz0 hz1 hz2 rfl (by decide) _ _ _ rfl hown ⟨wr.heap.size,0,none⟩ 1 1 [.string (s.extract fr s.size)] rfl rfl ?d2 (fun u hu=>by simp at hu;subst hu;rfl) ?d3 ?d4 ?d5 ?_)
   case d2=>exact rf _ _ _
   case d3=>omega
   case d4=>omega
   case d5=>simp;omega
   intro v7 V7 hown7 hgrow7 _
   have HO3:Hid (co V7 w.heap.size v7 (pcs c s.data.toList)):=yz (by
    have e:=yy HP;have hx:=yy HX;rw[List.take_of_length_le (by rw[be];exact Nat.le_refl _)]at e hx;unfold co;rw[e,List.map_append,List.length_append];show World.ownsRow _ _ _ _ _ _ (List.map bT D ++ [bT _]);unfold bT;rw[←hx]
    exact hown7)
   have HB3:=yz (kB (yy HB2) hgrow7 (by simp;omega) (fun g e=>(hown.lt _ e).1));clear hown7 hgrow7 hown HB2 HX;go_wp2_with fail;go_ret;exact⟨⟨_,rfl,yy HO3⟩,yy HB3⟩
end
section
open Go.Value renaming int → J
open Go.IntKind renaming i64 → Y
open Go.RowKit
def ku:Nat→List UInt8
 | 0=>jp
 | 1=>jq
 | 2=>sK
 | 3=>mc
 | 4=>jr
 | 5=>sL
 | _=>js
variable {s:ByteArray} {w:World}
theorem eM{B:Nat}{v:Value}{D:List (List UInt8)}(h:co w B v D)(hn:D≠[]):∃g cap,v=.slice (some ⟨g,0,none⟩) D.length cap∧D.length≤cap∧cap≤maxLen∧B≤g∧g<w.heap.size∧∀(j:Nat) x,D[j]? = some x→w.cell? ⟨g,j,none⟩=some (bT x):=by
 have hl:0<D.length:=List.length_pos_iff.2 hn;rcases h.2 with ⟨_,h0⟩ | ⟨g,cap,cur,hv,hb,hg,h1,h2,h3,h4⟩
 ·omega
 ·refine⟨g,cap,hv,h1,h2,hb,(Array.getElem?_eq_some_iff.1 hg).1,fun j x hj=>?_⟩;have hjl:j<D.length:=(List.getElem?_eq_some_iff.1 hj).1;rw[cell_of_row w g j cur _ _ hg];have e:(D.map bT)[j]? = some (bT x):=by rw[List.getElem?_map,hj];rfl
  rw[←h4,List.getElem?_take,if_pos (by omega)]at e;simpa using e
theorem eZ{w':World}{g j:Nat}{u:Value}(h:w.cell? ⟨g,j,none⟩=some u)(hB:Below w.heap.size w w'):w'.cell? ⟨g,j,none⟩=some u:=by
 rw[hB.cell (p:=⟨g,j,none⟩) (World.block_lt_of_cell? w _ h)];exact h
def eB(s:ByteArray)(e:Ending):Prop:=(∃l,bq s.data.toList=some l∧e=.returned (.tuple #[.agg #[bT (ku l.k),bT l.t,J Y l.n],.bool true]))∨(bq s.data.toList=none∧∃a b n,e=.returned (.tuple #[.agg #[.string a,.string b,J Y n],.bool false]))
theorem dt(h:bq s.data.toList=none)(a b:ByteArray)(n:Int):eB s (.returned (.tuple #[.agg #[.string a,.string b,J Y n],.bool false])):=.inr ⟨h,a,b,n,rfl⟩
theorem fk{l:Ln}(h:bq s.data.toList=some l):eB s (.returned (.tuple #[.agg #[bT (ku l.k),bT l.t,J Y l.n],.bool true])):=.inl ⟨l,h,rfl⟩
theorem cf(T:Array Value)(X:World)(b:Nat)(a t n:Value)(ok:Bool)(hT:T.getD 2 undef=.pointer (some ⟨b,0,none⟩))(hT3:T.getD 3 undef=.bool ok)(h0:X.cell? ⟨b,0,none⟩=some a)(h1:X.cell? ⟨b,1,none⟩=some t)(h2:X.cell? ⟨b,2,none⟩=some n):(results Tryz.f20 T).run Tryz.prog X=.ok (.tuple #[.agg #[a,t,n],.bool ok]) X:=by
 simp only[Array.getD_eq_getD_getElem?]at hT hT3;simp[results,Tryz.results20,go_sem,hT,hT3,h0,h1,h2]
theorem fK{s:List UInt8}{p0:List UInt8}{r:List (List UInt8)}(h:pcs 32 s=p0 :: r):bq s=if p0=jp then gY 0 r else if p0=jq then iK 1 r else if p0=sK then jj 2 r else if p0=mc then iK 3 r else if p0=jr then gY 4 r else if p0=sL then jj 5 r else if p0=js then gY 6 r else none:=by
 unfold bq;rw[h]
theorem py{y:List UInt8}(h:gg y=true):0≤kq y:=by
 have hy:(⟨y.toArray⟩:ByteArray).data.toList=y:=by simp
 rw[←hy]at h ⊢;rw[gr,Bool.and_eq_true]at h;rw[←vR];exact(oV _ _ (Nat.le_refl _) h.2).1
theorem gW(c:UInt8)(s:List UInt8):∀x∈pcs c s,x.length≤s.length:=by
 induction s with
 | nil=>intro x hx;simp[pcs]at hx;subst hx;simp
 | cons y ys ih=>
  intro x hx;rw[pcs]at hx;split at hx
  ·rcases List.mem_cons.1 hx with rfl | h
   ·simp
   ·have:=ih x h;simp;omega
  ·have hne:=kj c ys;cases hp:pcs c ys with
   | nil=>exact absurd hp hne
   | cons d D=>
    rw[hp]at hx;simp at hx;rcases hx with rfl | h
    ·have:=ih d (by rw[hp];exact List.mem_cons_self ..);simp;omega
    ·have:=ih x (by rw[hp];exact List.mem_cons_of_mem _ h);simp;omega
theorem fy(c:UInt8)(s:List UInt8):(pcs c s).length≤s.length+1:=by
 induction s with
 | nil=>simp[pcs]
 | cons y ys ih=>
  rw[pcs];split
  ·simp;omega
  ·have hne:=kj c ys;have:0<(pcs c ys).length:=List.length_pos_iff.2 hne;simp;omega
theorem sl(s:ByteArray)(r:List (List UInt8))(w:World)(hs:s.size≤8000)(hp:pcs 32 s.data.toList=jp :: r):
  Calls Tryz.prog 20 #[.string s] w fun e w'=>eB s e∧Below w.heap.size w w':=by
 have HL:Hid (bq s.data.toList=gY 0 r):=yz (by rw[fK hp];rfl);have HSZ:=yz (gW 32 s.data.toList);have HCT:=yz (fy 32 s.data.toList);have cS:Hid (Calls Tryz.prog 17 #[.string s,.int .u8 32] (w.alloc (.cells #[.string ⟨#[]⟩,.string ⟨#[]⟩,J Y 0] 53)) fun e w'=>(∃v,e=.returned v∧co w' (w.alloc (.cells #[.string ⟨#[]⟩,.string ⟨#[]⟩,J Y 0] 53)).heap.size v (jp :: r))∧Below (w.alloc (.cells #[.string ⟨#[]⟩,.string ⟨#[]⟩,J Y 0] 53)).heap.size (w.alloc (.cells #[.string ⟨#[]⟩,.string ⟨#[]⟩,J Y 0] 53)) w'):=yz (by have:=cH s 32 (w.alloc (.cells #[.string ⟨#[]⟩,.string ⟨#[]⟩,J Y 0] 53)) hs;rw[hp]at this;exact this);rw[hp]at HSZ HCT;clear hp;have B0:=yz (an w (.cells #[.string ⟨#[]⟩,.string ⟨#[]⟩,J Y 0] 53));have R0:=yz (aq w [.string ⟨#[]⟩,.string ⟨#[]⟩,J Y 0] 53);go_enter Tryz.func20,Tryz.ntmps20;go_wp2_with fail;refine(yy cS).mono ?_;rintro e w1 ⟨⟨v,rfl,ht⟩,hx⟩;obtain⟨g,cap,rfl,hc1,hc2,hgb,hg,hcell⟩:=eM ht (by simp);have hm8:maxLen≤9223372036854775807:=by decide +kernel
 have Z:=an w1 (.cells #[.string ⟨#[98,108,105,110,100]⟩,.string ⟨#[]⟩,J Y 0] 53);have B1:=ax (ax B0 hx) Z;have R1:=aQ R0 hx Z;have X1:=yz (aq w1 [.string ⟨#[98,108,105,110,100]⟩,.string ⟨#[]⟩,J Y 0] 53);have c0:w1.cell? ⟨g,0,none⟩=some (.string ⟨#[98,108,105,110,100]⟩):=hcell 0 _ rfl;have d0:=eZ c0 Z;have HCL:=yz (fun (j:Nat) x h=>eZ (hcell j x h) Z);have hrl:w.heap.size<w1.heap.size:=by have:=hx.size;have:=(yy R0).lt;omega
 clear cS ht hx hcell Z R0 B0;obtain⟨m,hm⟩:∃m,(jp :: r).length=m:=⟨_,rfl⟩
 have HM:=yz hm;rw[hm]at hc1 HCT ⊢;have hm1:1≤m:=by rw[←hm];simp
 have hm9:m≤8001:=by have:=yy HCT;rw[be]at this;omega
 clear hm;go_upto_region 3 with fail;clear c0;generalize w1.alloc (.cells #[.string ⟨#[98,108,105,110,100]⟩,.string ⟨#[]⟩,J Y 0] 53)=W2 at *;generalize w1.heap.size=xb at *;have r0:=(yy R1).cell 0 _ rfl;have f0:=(yy R1).free 0;have x0:=(yy X1).cell 0 _ rfl;have r1:=(yy R1).cell 1 _ rfl;have f1:=(yy R1).free 1;have x1:=(yy X1).cell 1 _ rfl;have r2:=(yy R1).cell 2 _ rfl;have f2:=(yy R1).free 2;have x2:=(yy X1).cell 2 _ rfl;by_cases h1:m=1
 ·subst h1
  have HR:Hid (bq s.data.toList=some ⟨0,[],0⟩):=yz (by
   have:r=[]:=by have:=yy HM;simpa using this
   rw[yy HL,this]
   rfl)
  go_wp2;refine bodyPost_ret (v:=.tuple #[.agg #[.string ⟨#[98,108,105,110,100]⟩,.string ⟨#[]⟩,J Y 0],.bool true]) ?_ rfl ⟨fk (yy HR),?_⟩
  ·refine cf _ _ w.heap.size _ _ _ true rfl rfl ?_ ?_ ?_<;>go_simp
  ·skip;iterate 3 (refine Below.setCell ?_ (Nat.le_refl w.heap.size) _)
   exact yy B1
 ·have hb:((m:Int)==1)=false:=by simpa using(show (m:Int)≠1 by omega)
  have HR:Hid (bq s.data.toList=none):=yz (by
   have:r≠[]:=fun e=>by have h:=yy HM;rw[e]at h;simp at h;omega
   rw[yy HL]
   match r,this with
   | y :: ys,_=>rfl)
  go_wp2;refine bodyPost_ret (v:=.tuple #[.agg #[.string ⟨#[98,108,105,110,100]⟩,.string ⟨#[]⟩,J Y 0],.bool false]) ?_ rfl ⟨dt (yy HR) _ _ _,?_⟩
  ·refine cf _ _ w.heap.size _ _ _ false rfl rfl ?_ ?_ ?_<;>go_simp
  ·skip;iterate 3 (refine Below.setCell ?_ (Nat.le_refl w.heap.size) _)
   exact yy B1
theorem sn(s:ByteArray)(r:List (List UInt8))(w:World)(hs:s.size≤8000)(hp:pcs 32 s.data.toList=jq :: r):
  Calls Tryz.prog 20 #[.string s] w fun e w'=>eB s e∧Below w.heap.size w w':=by
 have HL:Hid (bq s.data.toList=iK 1 r):=yz (by rw[fK hp];rfl);have HSZ:=yz (gW 32 s.data.toList);have HCT:=yz (fy 32 s.data.toList);have cS:Hid (Calls Tryz.prog 17 #[.string s,.int .u8 32] (w.alloc (.cells #[.string ⟨#[]⟩,.string ⟨#[]⟩,J Y 0] 53)) fun e w'=>(∃v,e=.returned v∧co w' (w.alloc (.cells #[.string ⟨#[]⟩,.string ⟨#[]⟩,J Y 0] 53)).heap.size v (jq :: r))∧Below (w.alloc (.cells #[.string ⟨#[]⟩,.string ⟨#[]⟩,J Y 0] 53)).heap.size (w.alloc (.cells #[.string ⟨#[]⟩,.string ⟨#[]⟩,J Y 0] 53)) w'):=yz (by have:=cH s 32 (w.alloc (.cells #[.string ⟨#[]⟩,.string ⟨#[]⟩,J Y 0] 53)) hs;rw[hp]at this;exact this);rw[hp]at HSZ HCT;clear hp;have B0:=yz (an w (.cells #[.string ⟨#[]⟩,.string ⟨#[]⟩,J Y 0] 53));have R0:=yz (aq w [.string ⟨#[]⟩,.string ⟨#[]⟩,J Y 0] 53);go_enter Tryz.func20,Tryz.ntmps20;go_wp2_with fail;refine(yy cS).mono ?_;rintro e w1 ⟨⟨v,rfl,ht⟩,hx⟩;obtain⟨g,cap,rfl,hc1,hc2,hgb,hg,hcell⟩:=eM ht (by simp);have hm8:maxLen≤9223372036854775807:=by decide +kernel
 have Z:=an w1 (.cells #[.string ⟨#[100,114,105,102,116]⟩,.string ⟨#[]⟩,J Y 0] 53);have B1:=ax (ax B0 hx) Z;have R1:=aQ R0 hx Z;have X1:=yz (aq w1 [.string ⟨#[100,114,105,102,116]⟩,.string ⟨#[]⟩,J Y 0] 53);have c0:w1.cell? ⟨g,0,none⟩=some (.string ⟨#[100,114,105,102,116]⟩):=hcell 0 _ rfl;have d0:=eZ c0 Z;have HCL:=yz (fun (j:Nat) x h=>eZ (hcell j x h) Z);have hrl:w.heap.size<w1.heap.size:=by have:=hx.size;have:=(yy R0).lt;omega
 clear cS ht hx hcell Z R0 B0;obtain⟨m,hm⟩:∃m,(jq :: r).length=m:=⟨_,rfl⟩
 have HM:=yz hm;rw[hm]at hc1 HCT ⊢;have hm1:1≤m:=by rw[←hm];simp
 have hm9:m≤8001:=by have:=yy HCT;rw[be]at this;omega
 clear hm;go_upto_region 3 with fail;clear c0;generalize w1.alloc (.cells #[.string ⟨#[100,114,105,102,116]⟩,.string ⟨#[]⟩,J Y 0] 53)=W2 at *;generalize w1.heap.size=xb at *;by_cases h2:m=2
 ·subst h2
  obtain⟨y,hy⟩:∃y,r=[y]:=by
   have h:=yy HM
   match r,h with
   | [y],_=>exact⟨y,rfl⟩
  have c1:=yy HCL 1 y (by rw[hy];rfl);have hyl:y.length≤8000:=by have:=yy HSZ y (by rw[hy];simp);rw[be]at this;omega
  unfold bT at c1;have HL2:Hid (bq s.data.toList=if y=[] then none else some ⟨1,y,0⟩):=yz (by rw[yy HL,hy];rfl);obtain⟨yb,hyb⟩:∃yb:ByteArray,(⟨y.toArray⟩:ByteArray)=yb:=⟨_,rfl⟩
  rw[hyb]at c1;have HY:=yz hyb;clear hyb hy;have r0:=(yy R1).cell 0 _ rfl;have f0:=(yy R1).free 0;have x0:=(yy X1).cell 0 _ rfl;have r1:=(yy R1).cell 1 _ rfl;have f1:=(yy R1).free 1;have x1:=(yy X1).cell 1 _ rfl;have r2:=(yy R1).cell 2 _ rfl;have f2:=(yy R1).free 2;have x2:=(yy X1).cell 2 _ rfl;have fx:=(yy X1).free 1;have hne:xb≠w.heap.size:=by omega
  have hne':w.heap.size≠xb:=by omega
  by_cases hz:y=[]
  ·have he:(yb.toList==[])=true:=qa (l:=[]) (by rw[←yy HY,hz]);have HR:Hid (bq s.data.toList=none):=yz (by rw[yy HL2,if_pos hz]);go_wp2;go_region
   all_goals
    go_wp2;refine bodyPost_ret (v:=.tuple #[.agg #[.string ⟨#[100,114,105,102,116]⟩,.string yb,J Y 0],.bool false]) ?_ rfl ⟨dt (yy HR) _ _ _,?_⟩
    ·refine cf _ _ w.heap.size _ _ _ false rfl rfl ?_ ?_ ?_<;>go_simp
    ·refine Below.drew ?_;iterate 3 (refine Below.setCell ?_ (Nat.le_refl w.heap.size) _)
     refine Below.setCell ?_ (Nat.le_of_lt hrl) _;exact yy B1
  ·have he:(yb.toList==[])=false:=fQ (l:=[]) (fun e=>hz (by rw[←yy HY]at e;have:=congrArg (fun b:ByteArray=>b.data.toList) e;simpa using this));have HR:=yz (show bq s.data.toList=some ⟨1,y,0⟩ by rw[yy HL2,if_neg hz]);have HE:Hid (eB s (.returned (.tuple #[.agg #[.string ⟨#[100,114,105,102,116]⟩,.string yb,J Y 0],.bool true]))):=yz (by rw[←yy HY];exact fk (yy HR));go_wp2;go_region
   all_goals
    go_wp2;refine bodyPost_ret (v:=.tuple #[.agg #[.string ⟨#[100,114,105,102,116]⟩,.string yb,J Y 0],.bool true]) ?_ rfl ⟨yy HE,?_⟩
    ·refine cf _ _ w.heap.size _ _ _ true rfl rfl ?_ ?_ ?_<;>go_simp
    ·refine Below.drew ?_;iterate 3 (refine Below.setCell ?_ (Nat.le_refl w.heap.size) _)
     refine Below.setCell ?_ (Nat.le_of_lt hrl) _;exact yy B1
 ·have hb:((m:Int)==2)=false:=by simpa using(show (m:Int)≠2 by omega)
  have HR:Hid (bq s.data.toList=none):=yz (by
   rw[yy HL];have h:=yy HM
   match r,h with
   | [],_=>rfl
   | [y],h=>simp at h;omega
   | y :: y2 :: ys,_=>rfl)
  have r0:=(yy R1).cell 0 _ rfl;have f0:=(yy R1).free 0;have x0:=(yy X1).cell 0 _ rfl;have r1:=(yy R1).cell 1 _ rfl;have f1:=(yy R1).free 1;have x1:=(yy X1).cell 1 _ rfl;have r2:=(yy R1).cell 2 _ rfl;have f2:=(yy R1).free 2;have x2:=(yy X1).cell 2 _ rfl;go_wp2;refine bodyPost_ret (v:=.tuple #[.agg #[.string ⟨#[100,114,105,102,116]⟩,.string ⟨#[]⟩,J Y 0],.bool false]) ?_ rfl ⟨dt (yy HR) _ _ _,?_⟩
  ·refine cf _ _ w.heap.size _ _ _ false rfl rfl ?_ ?_ ?_<;>go_simp
  ·skip;iterate 3 (refine Below.setCell ?_ (Nat.le_refl w.heap.size) _)
   exact yy B1
theorem wZ(s:ByteArray)(r:List (List UInt8))(w:World)(hs:s.size≤8000)(hp:pcs 32 s.data.toList=sK :: r):
  Calls Tryz.prog 20 #[.string s] w fun e w'=>eB s e∧Below w.heap.size w w':=by
 have HL:Hid (bq s.data.toList=jj 2 r):=yz (by rw[fK hp];rfl);have HSZ:=yz (gW 32 s.data.toList);have HCT:=yz (fy 32 s.data.toList);have cS:Hid (Calls Tryz.prog 17 #[.string s,.int .u8 32] (w.alloc (.cells #[.string ⟨#[]⟩,.string ⟨#[]⟩,J Y 0] 53)) fun e w'=>(∃v,e=.returned v∧co w' (w.alloc (.cells #[.string ⟨#[]⟩,.string ⟨#[]⟩,J Y 0] 53)).heap.size v (sK :: r))∧Below (w.alloc (.cells #[.string ⟨#[]⟩,.string ⟨#[]⟩,J Y 0] 53)).heap.size (w.alloc (.cells #[.string ⟨#[]⟩,.string ⟨#[]⟩,J Y 0] 53)) w'):=yz (by have:=cH s 32 (w.alloc (.cells #[.string ⟨#[]⟩,.string ⟨#[]⟩,J Y 0] 53)) hs;rw[hp]at this;exact this);rw[hp]at HSZ HCT;clear hp;have B0:=yz (an w (.cells #[.string ⟨#[]⟩,.string ⟨#[]⟩,J Y 0] 53));have R0:=yz (aq w [.string ⟨#[]⟩,.string ⟨#[]⟩,J Y 0] 53);go_enter Tryz.func20,Tryz.ntmps20;go_wp2_with fail;refine(yy cS).mono ?_;rintro e w1 ⟨⟨v,rfl,ht⟩,hx⟩;obtain⟨g,cap,rfl,hc1,hc2,hgb,hg,hcell⟩:=eM ht (by simp);have hm8:maxLen≤9223372036854775807:=by decide +kernel
 have Z:=an w1 (.cells #[.string ⟨#[105,100,115]⟩,.string ⟨#[]⟩,J Y 0] 53);have B1:=ax (ax B0 hx) Z;have R1:=aQ R0 hx Z;have X1:=yz (aq w1 [.string ⟨#[105,100,115]⟩,.string ⟨#[]⟩,J Y 0] 53);have c0:w1.cell? ⟨g,0,none⟩=some (.string ⟨#[105,100,115]⟩):=hcell 0 _ rfl;have d0:=eZ c0 Z;have HCL:=yz (fun (j:Nat) x h=>eZ (hcell j x h) Z);have hrl:w.heap.size<w1.heap.size:=by have:=hx.size;have:=(yy R0).lt;omega
 clear cS ht hx hcell Z R0 B0;obtain⟨m,hm⟩:∃m,(sK :: r).length=m:=⟨_,rfl⟩
 have HM:=yz hm;rw[hm]at hc1 HCT ⊢;have hm1:1≤m:=by rw[←hm];simp
 have hm9:m≤8001:=by have:=yy HCT;rw[be]at this;omega
 clear hm;go_upto_region 3 with fail;clear c0;generalize w1.alloc (.cells #[.string ⟨#[105,100,115]⟩,.string ⟨#[]⟩,J Y 0] 53)=W2 at *;generalize w1.heap.size=xb at *;by_cases h2:m=2
 ·subst h2
  obtain⟨y,hy⟩:∃y,r=[y]:=by
   have h:=yy HM
   match r,h with
   | [y],_=>exact⟨y,rfl⟩
  have c1:=yy HCL 1 y (by rw[hy];rfl);have hyl:y.length≤8000:=by have:=yy HSZ y (by rw[hy];simp);rw[be]at this;omega
  unfold bT at c1;have HL2:Hid (bq s.data.toList=if gg y=true then some ⟨2,[],kq y⟩ else none):=yz (by rw[yy HL,hy];rfl);obtain⟨yb,hyb⟩:∃yb:ByteArray,(⟨y.toArray⟩:ByteArray)=yb:=⟨_,rfl⟩
  rw[hyb]at c1;have hys:yb.size≤8000:=by rw[←hyb];show y.toArray.size≤8000;simpa using hyl
  have HY:Hid (yb.data.toList=y):=yz (by rw[←hyb]);have cN:=yz (fun W=>qS yb W hys);rw[yy HY]at cN;clear hyb hy;obtain⟨z,hz⟩:∃z:Int,(if gg y=true then kq y else -1)=z:=⟨_,rfl⟩
  rw[hz]at cN;have HZ:=yz hz;clear hz;go_wp2_with fail;refine(yy cN _).mono ?_;rintro e W3 ⟨rfl,hw3⟩;rw[hw3];clear hw3 W3;have r0:=(yy R1).cell 0 _ rfl;have f0:=(yy R1).free 0;have x0:=(yy X1).cell 0 _ rfl;have r1:=(yy R1).cell 1 _ rfl;have f1:=(yy R1).free 1;have x1:=(yy X1).cell 1 _ rfl;have r2:=(yy R1).cell 2 _ rfl;have f2:=(yy R1).free 2;have x2:=(yy X1).cell 2 _ rfl;have fx:=(yy X1).free 2;have hne:xb≠w.heap.size:=by omega
  have hne':w.heap.size≠xb:=by omega
  by_cases hq:gg y=true
  ·have HR:=yz (show bq s.data.toList=some ⟨2,[],z⟩ by rw[yy HL2,if_pos hq,←yy HZ,if_pos hq]);have hz0:decide (0≤z)=true:=decide_eq_true (by have:=yy HZ;rw[if_pos hq]at this;rw[←this];exact py hq);go_wp2;go_region
   all_goals
    go_wp2;refine bodyPost_ret (v:=.tuple #[.agg #[.string ⟨#[105,100,115]⟩,.string ⟨#[]⟩,J Y z],.bool true]) ?_ rfl ⟨fk (yy HR),?_⟩
    ·refine cf _ _ w.heap.size _ _ _ true rfl rfl ?_ ?_ ?_<;>go_simp
    ·refine Below.drew ?_;iterate 3 (refine Below.setCell ?_ (Nat.le_refl w.heap.size) _)
     refine Below.setCell ?_ (Nat.le_of_lt hrl) _;exact yy B1
  ·have HR:=yz (show bq s.data.toList=none by rw[yy HL2,if_neg hq]);have hz0:decide (0≤z)=false:=decide_eq_false (by have:=yy HZ;rw[if_neg hq]at this;omega);go_wp2;go_region
   all_goals
    go_wp2;refine bodyPost_ret (v:=.tuple #[.agg #[.string ⟨#[105,100,115]⟩,.string ⟨#[]⟩,J Y z],.bool false]) ?_ rfl ⟨dt (yy HR) _ _ _,?_⟩
    ·refine cf _ _ w.heap.size _ _ _ false rfl rfl ?_ ?_ ?_<;>go_simp
    ·refine Below.drew ?_;iterate 3 (refine Below.setCell ?_ (Nat.le_refl w.heap.size) _)
     refine Below.setCell ?_ (Nat.le_of_lt hrl) _;exact yy B1
 ·have hb:((m:Int)==2)=false:=by simpa using(show (m:Int)≠2 by omega)
  have HR:Hid (bq s.data.toList=none):=yz (by
   rw[yy HL];have h:=yy HM
   match r,h with
   | [],_=>rfl
   | [y],h=>simp at h;omega
   | y :: y2 :: ys,_=>rfl)
  have r0:=(yy R1).cell 0 _ rfl;have f0:=(yy R1).free 0;have x0:=(yy X1).cell 0 _ rfl;have r1:=(yy R1).cell 1 _ rfl;have f1:=(yy R1).free 1;have x1:=(yy X1).cell 1 _ rfl;have r2:=(yy R1).cell 2 _ rfl;have f2:=(yy R1).free 2;have x2:=(yy X1).cell 2 _ rfl;go_wp2;refine bodyPost_ret (v:=.tuple #[.agg #[.string ⟨#[105,100,115]⟩,.string ⟨#[]⟩,J Y 0],.bool false]) ?_ rfl ⟨dt (yy HR) _ _ _,?_⟩
  ·refine cf _ _ w.heap.size _ _ _ false rfl rfl ?_ ?_ ?_<;>go_simp
  ·skip;iterate 3 (refine Below.setCell ?_ (Nat.le_refl w.heap.size) _)
   exact yy B1
theorem uN(s:ByteArray)(r:List (List UInt8))(w:World)(hs:s.size≤8000)(hp:pcs 32 s.data.toList=mc :: r):
  Calls Tryz.prog 20 #[.string s] w fun e w'=>eB s e∧Below w.heap.size w w':=by
 have HL:Hid (bq s.data.toList=iK 3 r):=yz (by rw[fK hp];rfl);have HSZ:=yz (gW 32 s.data.toList);have HCT:=yz (fy 32 s.data.toList);have cS:Hid (Calls Tryz.prog 17 #[.string s,.int .u8 32] (w.alloc (.cells #[.string ⟨#[]⟩,.string ⟨#[]⟩,J Y 0] 53)) fun e w'=>(∃v,e=.returned v∧co w' (w.alloc (.cells #[.string ⟨#[]⟩,.string ⟨#[]⟩,J Y 0] 53)).heap.size v (mc :: r))∧Below (w.alloc (.cells #[.string ⟨#[]⟩,.string ⟨#[]⟩,J Y 0] 53)).heap.size (w.alloc (.cells #[.string ⟨#[]⟩,.string ⟨#[]⟩,J Y 0] 53)) w'):=yz (by have:=cH s 32 (w.alloc (.cells #[.string ⟨#[]⟩,.string ⟨#[]⟩,J Y 0] 53)) hs;rw[hp]at this;exact this);rw[hp]at HSZ HCT;clear hp;have B0:=yz (an w (.cells #[.string ⟨#[]⟩,.string ⟨#[]⟩,J Y 0] 53));have R0:=yz (aq w [.string ⟨#[]⟩,.string ⟨#[]⟩,J Y 0] 53);go_enter Tryz.func20,Tryz.ntmps20;go_wp2_with fail;refine(yy cS).mono ?_;rintro e w1 ⟨⟨v,rfl,ht⟩,hx⟩;obtain⟨g,cap,rfl,hc1,hc2,hgb,hg,hcell⟩:=eM ht (by simp);have hm8:maxLen≤9223372036854775807:=by decide +kernel
 have Z:=an w1 (.cells #[.string ⟨#[109,111,118,101]⟩,.string ⟨#[]⟩,J Y 0] 53);have B1:=ax (ax B0 hx) Z;have R1:=aQ R0 hx Z;have X1:=yz (aq w1 [.string ⟨#[109,111,118,101]⟩,.string ⟨#[]⟩,J Y 0] 53);have c0:w1.cell? ⟨g,0,none⟩=some (.string ⟨#[109,111,118,101]⟩):=hcell 0 _ rfl;have d0:=eZ c0 Z;have HCL:=yz (fun (j:Nat) x h=>eZ (hcell j x h) Z);have hrl:w.heap.size<w1.heap.size:=by have:=hx.size;have:=(yy R0).lt;omega
 clear cS ht hx hcell Z R0 B0;obtain⟨m,hm⟩:∃m,(mc :: r).length=m:=⟨_,rfl⟩
 have HM:=yz hm;rw[hm]at hc1 HCT ⊢;have hm1:1≤m:=by rw[←hm];simp
 have hm9:m≤8001:=by have:=yy HCT;rw[be]at this;omega
 clear hm;go_upto_region 3 with fail;clear c0;generalize w1.alloc (.cells #[.string ⟨#[109,111,118,101]⟩,.string ⟨#[]⟩,J Y 0] 53)=W2 at *;generalize w1.heap.size=xb at *;by_cases h2:m=2
 ·subst h2
  obtain⟨y,hy⟩:∃y,r=[y]:=by
   have h:=yy HM
   match r,h with
   | [y],_=>exact⟨y,rfl⟩
  have c1:=yy HCL 1 y (by rw[hy];rfl);have hyl:y.length≤8000:=by have:=yy HSZ y (by rw[hy];simp);rw[be]at this;omega
  unfold bT at c1;have HL2:Hid (bq s.data.toList=if y=[] then none else some ⟨3,y,0⟩):=yz (by rw[yy HL,hy];rfl);obtain⟨yb,hyb⟩:∃yb:ByteArray,(⟨y.toArray⟩:ByteArray)=yb:=⟨_,rfl⟩
  rw[hyb]at c1;have HY:=yz hyb;clear hyb hy;have r0:=(yy R1).cell 0 _ rfl;have f0:=(yy R1).free 0;have x0:=(yy X1).cell 0 _ rfl;have r1:=(yy R1).cell 1 _ rfl;have f1:=(yy R1).free 1;have x1:=(yy X1).cell 1 _ rfl;have r2:=(yy R1).cell 2 _ rfl;have f2:=(yy R1).free 2;have x2:=(yy X1).cell 2 _ rfl;have fx:=(yy X1).free 1;have hne:xb≠w.heap.size:=by omega
  have hne':w.heap.size≠xb:=by omega
  by_cases hz:y=[]
  ·have he:(yb.toList==[])=true:=qa (l:=[]) (by rw[←yy HY,hz]);have HR:Hid (bq s.data.toList=none):=yz (by rw[yy HL2,if_pos hz]);go_wp2;go_region
   all_goals
    go_wp2;refine bodyPost_ret (v:=.tuple #[.agg #[.string ⟨#[109,111,118,101]⟩,.string yb,J Y 0],.bool false]) ?_ rfl ⟨dt (yy HR) _ _ _,?_⟩
    ·refine cf _ _ w.heap.size _ _ _ false rfl rfl ?_ ?_ ?_<;>go_simp
    ·refine Below.drew ?_;iterate 3 (refine Below.setCell ?_ (Nat.le_refl w.heap.size) _)
     refine Below.setCell ?_ (Nat.le_of_lt hrl) _;exact yy B1
  ·have he:(yb.toList==[])=false:=fQ (l:=[]) (fun e=>hz (by rw[←yy HY]at e;have:=congrArg (fun b:ByteArray=>b.data.toList) e;simpa using this));have HR:=yz (show bq s.data.toList=some ⟨3,y,0⟩ by rw[yy HL2,if_neg hz]);have HE:Hid (eB s (.returned (.tuple #[.agg #[.string ⟨#[109,111,118,101]⟩,.string yb,J Y 0],.bool true]))):=yz (by rw[←yy HY];exact fk (yy HR));go_wp2;go_region
   all_goals
    go_wp2;refine bodyPost_ret (v:=.tuple #[.agg #[.string ⟨#[109,111,118,101]⟩,.string yb,J Y 0],.bool true]) ?_ rfl ⟨yy HE,?_⟩
    ·refine cf _ _ w.heap.size _ _ _ true rfl rfl ?_ ?_ ?_<;>go_simp
    ·refine Below.drew ?_;iterate 3 (refine Below.setCell ?_ (Nat.le_refl w.heap.size) _)
     refine Below.setCell ?_ (Nat.le_of_lt hrl) _;exact yy B1
 ·have hb:((m:Int)==2)=false:=by simpa using(show (m:Int)≠2 by omega)
  have HR:Hid (bq s.data.toList=none):=yz (by
   rw[yy HL];have h:=yy HM
   match r,h with
   | [],_=>rfl
   | [y],h=>simp at h;omega
   | y :: y2 :: ys,_=>rfl)
  have r0:=(yy R1).cell 0 _ rfl;have f0:=(yy R1).free 0;have x0:=(yy X1).cell 0 _ rfl;have r1:=(yy R1).cell 1 _ rfl;have f1:=(yy R1).free 1;have x1:=(yy X1).cell 1 _ rfl;have r2:=(yy R1).cell 2 _ rfl;have f2:=(yy R1).free 2;have x2:=(yy X1).cell 2 _ rfl;go_wp2;refine bodyPost_ret (v:=.tuple #[.agg #[.string ⟨#[109,111,118,101]⟩,.string ⟨#[]⟩,J Y 0],.bool false]) ?_ rfl ⟨dt (yy HR) _ _ _,?_⟩
  ·refine cf _ _ w.heap.size _ _ _ false rfl rfl ?_ ?_ ?_<;>go_simp
  ·skip;iterate 3 (refine Below.setCell ?_ (Nat.le_refl w.heap.size) _)
   exact yy B1
theorem sr(s:ByteArray)(r:List (List UInt8))(w:World)(hs:s.size≤8000)(hp:pcs 32 s.data.toList=jr :: r):
  Calls Tryz.prog 20 #[.string s] w fun e w'=>eB s e∧Below w.heap.size w w':=by
 have HL:Hid (bq s.data.toList=gY 4 r):=yz (by rw[fK hp];rfl);have HSZ:=yz (gW 32 s.data.toList);have HCT:=yz (fy 32 s.data.toList);have cS:Hid (Calls Tryz.prog 17 #[.string s,.int .u8 32] (w.alloc (.cells #[.string ⟨#[]⟩,.string ⟨#[]⟩,J Y 0] 53)) fun e w'=>(∃v,e=.returned v∧co w' (w.alloc (.cells #[.string ⟨#[]⟩,.string ⟨#[]⟩,J Y 0] 53)).heap.size v (jr :: r))∧Below (w.alloc (.cells #[.string ⟨#[]⟩,.string ⟨#[]⟩,J Y 0] 53)).heap.size (w.alloc (.cells #[.string ⟨#[]⟩,.string ⟨#[]⟩,J Y 0] 53)) w'):=yz (by have:=cH s 32 (w.alloc (.cells #[.string ⟨#[]⟩,.string ⟨#[]⟩,J Y 0] 53)) hs;rw[hp]at this;exact this);rw[hp]at HSZ HCT;clear hp;have B0:=yz (an w (.cells #[.string ⟨#[]⟩,.string ⟨#[]⟩,J Y 0] 53));have R0:=yz (aq w [.string ⟨#[]⟩,.string ⟨#[]⟩,J Y 0] 53);go_enter Tryz.func20,Tryz.ntmps20;go_wp2_with fail;refine(yy cS).mono ?_;rintro e w1 ⟨⟨v,rfl,ht⟩,hx⟩;obtain⟨g,cap,rfl,hc1,hc2,hgb,hg,hcell⟩:=eM ht (by simp);have hm8:maxLen≤9223372036854775807:=by decide +kernel
 have Z:=an w1 (.cells #[.string ⟨#[114,101,115,101,116]⟩,.string ⟨#[]⟩,J Y 0] 53);have B1:=ax (ax B0 hx) Z;have R1:=aQ R0 hx Z;have X1:=yz (aq w1 [.string ⟨#[114,101,115,101,116]⟩,.string ⟨#[]⟩,J Y 0] 53);have c0:w1.cell? ⟨g,0,none⟩=some (.string ⟨#[114,101,115,101,116]⟩):=hcell 0 _ rfl;have d0:=eZ c0 Z;have HCL:=yz (fun (j:Nat) x h=>eZ (hcell j x h) Z);have hrl:w.heap.size<w1.heap.size:=by have:=hx.size;have:=(yy R0).lt;omega
 clear cS ht hx hcell Z R0 B0;obtain⟨m,hm⟩:∃m,(jr :: r).length=m:=⟨_,rfl⟩
 have HM:=yz hm;rw[hm]at hc1 HCT ⊢;have hm1:1≤m:=by rw[←hm];simp
 have hm9:m≤8001:=by have:=yy HCT;rw[be]at this;omega
 clear hm;go_upto_region 3 with fail;clear c0;generalize w1.alloc (.cells #[.string ⟨#[114,101,115,101,116]⟩,.string ⟨#[]⟩,J Y 0] 53)=W2 at *;generalize w1.heap.size=xb at *;have r0:=(yy R1).cell 0 _ rfl;have f0:=(yy R1).free 0;have x0:=(yy X1).cell 0 _ rfl;have r1:=(yy R1).cell 1 _ rfl;have f1:=(yy R1).free 1;have x1:=(yy X1).cell 1 _ rfl;have r2:=(yy R1).cell 2 _ rfl;have f2:=(yy R1).free 2;have x2:=(yy X1).cell 2 _ rfl;by_cases h1:m=1
 ·subst h1
  have HR:Hid (bq s.data.toList=some ⟨4,[],0⟩):=yz (by
   have:r=[]:=by have:=yy HM;simpa using this
   rw[yy HL,this]
   rfl)
  go_wp2;refine bodyPost_ret (v:=.tuple #[.agg #[.string ⟨#[114,101,115,101,116]⟩,.string ⟨#[]⟩,J Y 0],.bool true]) ?_ rfl ⟨fk (yy HR),?_⟩
  ·refine cf _ _ w.heap.size _ _ _ true rfl rfl ?_ ?_ ?_<;>go_simp
  ·skip;iterate 3 (refine Below.setCell ?_ (Nat.le_refl w.heap.size) _)
   exact yy B1
 ·have hb:((m:Int)==1)=false:=by simpa using(show (m:Int)≠1 by omega)
  have HR:Hid (bq s.data.toList=none):=yz (by
   have:r≠[]:=fun e=>by have h:=yy HM;rw[e]at h;simp at h;omega
   rw[yy HL]
   match r,this with
   | y :: ys,_=>rfl)
  go_wp2;refine bodyPost_ret (v:=.tuple #[.agg #[.string ⟨#[114,101,115,101,116]⟩,.string ⟨#[]⟩,J Y 0],.bool false]) ?_ rfl ⟨dt (yy HR) _ _ _,?_⟩
  ·refine cf _ _ w.heap.size _ _ _ false rfl rfl ?_ ?_ ?_<;>go_simp
  ·skip;iterate 3 (refine Below.setCell ?_ (Nat.le_refl w.heap.size) _)
   exact yy B1
theorem xc(s:ByteArray)(r:List (List UInt8))(w:World)(hs:s.size≤8000)(hp:pcs 32 s.data.toList=sL :: r):
  Calls Tryz.prog 20 #[.string s] w fun e w'=>eB s e∧Below w.heap.size w w':=by
 have HL:Hid (bq s.data.toList=jj 5 r):=yz (by rw[fK hp];rfl);have HSZ:=yz (gW 32 s.data.toList);have HCT:=yz (fy 32 s.data.toList);have cS:Hid (Calls Tryz.prog 17 #[.string s,.int .u8 32] (w.alloc (.cells #[.string ⟨#[]⟩,.string ⟨#[]⟩,J Y 0] 53)) fun e w'=>(∃v,e=.returned v∧co w' (w.alloc (.cells #[.string ⟨#[]⟩,.string ⟨#[]⟩,J Y 0] 53)).heap.size v (sL :: r))∧Below (w.alloc (.cells #[.string ⟨#[]⟩,.string ⟨#[]⟩,J Y 0] 53)).heap.size (w.alloc (.cells #[.string ⟨#[]⟩,.string ⟨#[]⟩,J Y 0] 53)) w'):=yz (by have:=cH s 32 (w.alloc (.cells #[.string ⟨#[]⟩,.string ⟨#[]⟩,J Y 0] 53)) hs;rw[hp]at this;exact this);rw[hp]at HSZ HCT;clear hp;have B0:=yz (an w (.cells #[.string ⟨#[]⟩,.string ⟨#[]⟩,J Y 0] 53));have R0:=yz (aq w [.string ⟨#[]⟩,.string ⟨#[]⟩,J Y 0] 53);go_enter Tryz.func20,Tryz.ntmps20;go_wp2_with fail;refine(yy cS).mono ?_;rintro e w1 ⟨⟨v,rfl,ht⟩,hx⟩;obtain⟨g,cap,rfl,hc1,hc2,hgb,hg,hcell⟩:=eM ht (by simp);have hm8:maxLen≤9223372036854775807:=by decide +kernel
 have Z:=an w1 (.cells #[.string ⟨#[115,101,101]⟩,.string ⟨#[]⟩,J Y 0] 53);have B1:=ax (ax B0 hx) Z;have R1:=aQ R0 hx Z;have X1:=yz (aq w1 [.string ⟨#[115,101,101]⟩,.string ⟨#[]⟩,J Y 0] 53);have c0:w1.cell? ⟨g,0,none⟩=some (.string ⟨#[115,101,101]⟩):=hcell 0 _ rfl;have d0:=eZ c0 Z;have HCL:=yz (fun (j:Nat) x h=>eZ (hcell j x h) Z);have hrl:w.heap.size<w1.heap.size:=by have:=hx.size;have:=(yy R0).lt;omega
 clear cS ht hx hcell Z R0 B0;obtain⟨m,hm⟩:∃m,(sL :: r).length=m:=⟨_,rfl⟩
 have HM:=yz hm;rw[hm]at hc1 HCT ⊢;have hm1:1≤m:=by rw[←hm];simp
 have hm9:m≤8001:=by have:=yy HCT;rw[be]at this;omega
 clear hm;go_upto_region 3 with fail;clear c0;generalize w1.alloc (.cells #[.string ⟨#[115,101,101]⟩,.string ⟨#[]⟩,J Y 0] 53)=W2 at *;generalize w1.heap.size=xb at *;by_cases h2:m=2
 ·subst h2
  obtain⟨y,hy⟩:∃y,r=[y]:=by
   have h:=yy HM
   match r,h with
   | [y],_=>exact⟨y,rfl⟩
  have c1:=yy HCL 1 y (by rw[hy];rfl);have hyl:y.length≤8000:=by have:=yy HSZ y (by rw[hy];simp);rw[be]at this;omega
  unfold bT at c1;have HL2:Hid (bq s.data.toList=if gg y=true then some ⟨5,[],kq y⟩ else none):=yz (by rw[yy HL,hy];rfl);obtain⟨yb,hyb⟩:∃yb:ByteArray,(⟨y.toArray⟩:ByteArray)=yb:=⟨_,rfl⟩
  rw[hyb]at c1;have hys:yb.size≤8000:=by rw[←hyb];show y.toArray.size≤8000;simpa using hyl
  have HY:Hid (yb.data.toList=y):=yz (by rw[←hyb]);have cN:=yz (fun W=>qS yb W hys);rw[yy HY]at cN;clear hyb hy;obtain⟨z,hz⟩:∃z:Int,(if gg y=true then kq y else -1)=z:=⟨_,rfl⟩
  rw[hz]at cN;have HZ:=yz hz;clear hz;go_wp2_with fail;refine(yy cN _).mono ?_;rintro e W3 ⟨rfl,hw3⟩;rw[hw3];clear hw3 W3;have r0:=(yy R1).cell 0 _ rfl;have f0:=(yy R1).free 0;have x0:=(yy X1).cell 0 _ rfl;have r1:=(yy R1).cell 1 _ rfl;have f1:=(yy R1).free 1;have x1:=(yy X1).cell 1 _ rfl;have r2:=(yy R1).cell 2 _ rfl;have f2:=(yy R1).free 2;have x2:=(yy X1).cell 2 _ rfl;have fx:=(yy X1).free 2;have hne:xb≠w.heap.size:=by omega
  have hne':w.heap.size≠xb:=by omega
  by_cases hq:gg y=true
  ·have HR:=yz (show bq s.data.toList=some ⟨5,[],z⟩ by rw[yy HL2,if_pos hq,←yy HZ,if_pos hq]);have hz0:decide (0≤z)=true:=decide_eq_true (by have:=yy HZ;rw[if_pos hq]at this;rw[←this];exact py hq);go_wp2;go_region
   all_goals
    go_wp2;refine bodyPost_ret (v:=.tuple #[.agg #[.string ⟨#[115,101,101]⟩,.string ⟨#[]⟩,J Y z],.bool true]) ?_ rfl ⟨fk (yy HR),?_⟩
    ·refine cf _ _ w.heap.size _ _ _ true rfl rfl ?_ ?_ ?_<;>go_simp
    ·refine Below.drew ?_;iterate 3 (refine Below.setCell ?_ (Nat.le_refl w.heap.size) _)
     refine Below.setCell ?_ (Nat.le_of_lt hrl) _;exact yy B1
  ·have HR:=yz (show bq s.data.toList=none by rw[yy HL2,if_neg hq]);have hz0:decide (0≤z)=false:=decide_eq_false (by have:=yy HZ;rw[if_neg hq]at this;omega);go_wp2;go_region
   all_goals
    go_wp2;refine bodyPost_ret (v:=.tuple #[.agg #[.string ⟨#[115,101,101]⟩,.string ⟨#[]⟩,J Y z],.bool false]) ?_ rfl ⟨dt (yy HR) _ _ _,?_⟩
    ·refine cf _ _ w.heap.size _ _ _ false rfl rfl ?_ ?_ ?_<;>go_simp
    ·refine Below.drew ?_;iterate 3 (refine Below.setCell ?_ (Nat.le_refl w.heap.size) _)
     refine Below.setCell ?_ (Nat.le_of_lt hrl) _;exact yy B1
 ·have hb:((m:Int)==2)=false:=by simpa using(show (m:Int)≠2 by omega)
  have HR:Hid (bq s.data.toList=none):=yz (by
   rw[yy HL];have h:=yy HM
   match r,h with
   | [],_=>rfl
   | [y],h=>simp at h;omega
   | y :: y2 :: ys,_=>rfl)
  have r0:=(yy R1).cell 0 _ rfl;have f0:=(yy R1).free 0;have x0:=(yy X1).cell 0 _ rfl;have r1:=(yy R1).cell 1 _ rfl;have f1:=(yy R1).free 1;have x1:=(yy X1).cell 1 _ rfl;have r2:=(yy R1).cell 2 _ rfl;have f2:=(yy R1).free 2;have x2:=(yy X1).cell 2 _ rfl;go_wp2;refine bodyPost_ret (v:=.tuple #[.agg #[.string ⟨#[115,101,101]⟩,.string ⟨#[]⟩,J Y 0],.bool false]) ?_ rfl ⟨dt (yy HR) _ _ _,?_⟩
  ·refine cf _ _ w.heap.size _ _ _ false rfl rfl ?_ ?_ ?_<;>go_simp
  ·skip;iterate 3 (refine Below.setCell ?_ (Nat.le_refl w.heap.size) _)
   exact yy B1
theorem ss(s:ByteArray)(r:List (List UInt8))(w:World)(hs:s.size≤8000)(hp:pcs 32 s.data.toList=js :: r):
  Calls Tryz.prog 20 #[.string s] w fun e w'=>eB s e∧Below w.heap.size w w':=by
 have HL:Hid (bq s.data.toList=gY 6 r):=yz (by rw[fK hp];rfl);have HSZ:=yz (gW 32 s.data.toList);have HCT:=yz (fy 32 s.data.toList);have cS:Hid (Calls Tryz.prog 17 #[.string s,.int .u8 32] (w.alloc (.cells #[.string ⟨#[]⟩,.string ⟨#[]⟩,J Y 0] 53)) fun e w'=>(∃v,e=.returned v∧co w' (w.alloc (.cells #[.string ⟨#[]⟩,.string ⟨#[]⟩,J Y 0] 53)).heap.size v (js :: r))∧Below (w.alloc (.cells #[.string ⟨#[]⟩,.string ⟨#[]⟩,J Y 0] 53)).heap.size (w.alloc (.cells #[.string ⟨#[]⟩,.string ⟨#[]⟩,J Y 0] 53)) w'):=yz (by have:=cH s 32 (w.alloc (.cells #[.string ⟨#[]⟩,.string ⟨#[]⟩,J Y 0] 53)) hs;rw[hp]at this;exact this);rw[hp]at HSZ HCT;clear hp;have B0:=yz (an w (.cells #[.string ⟨#[]⟩,.string ⟨#[]⟩,J Y 0] 53));have R0:=yz (aq w [.string ⟨#[]⟩,.string ⟨#[]⟩,J Y 0] 53);go_enter Tryz.func20,Tryz.ntmps20;go_wp2_with fail;refine(yy cS).mono ?_;rintro e w1 ⟨⟨v,rfl,ht⟩,hx⟩;obtain⟨g,cap,rfl,hc1,hc2,hgb,hg,hcell⟩:=eM ht (by simp);have hm8:maxLen≤9223372036854775807:=by decide +kernel
 have Z:=an w1 (.cells #[.string ⟨#[115,116,97,116,101]⟩,.string ⟨#[]⟩,J Y 0] 53);have B1:=ax (ax B0 hx) Z;have R1:=aQ R0 hx Z;have X1:=yz (aq w1 [.string ⟨#[115,116,97,116,101]⟩,.string ⟨#[]⟩,J Y 0] 53);have c0:w1.cell? ⟨g,0,none⟩=some (.string ⟨#[115,116,97,116,101]⟩):=hcell 0 _ rfl;have d0:=eZ c0 Z;have HCL:=yz (fun (j:Nat) x h=>eZ (hcell j x h) Z);have hrl:w.heap.size<w1.heap.size:=by have:=hx.size;have:=(yy R0).lt;omega
 clear cS ht hx hcell Z R0 B0;obtain⟨m,hm⟩:∃m,(js :: r).length=m:=⟨_,rfl⟩
 have HM:=yz hm;rw[hm]at hc1 HCT ⊢;have hm1:1≤m:=by rw[←hm];simp
 have hm9:m≤8001:=by have:=yy HCT;rw[be]at this;omega
 clear hm;go_upto_region 3 with fail;clear c0;generalize w1.alloc (.cells #[.string ⟨#[115,116,97,116,101]⟩,.string ⟨#[]⟩,J Y 0] 53)=W2 at *;generalize w1.heap.size=xb at *;have r0:=(yy R1).cell 0 _ rfl;have f0:=(yy R1).free 0;have x0:=(yy X1).cell 0 _ rfl;have r1:=(yy R1).cell 1 _ rfl;have f1:=(yy R1).free 1;have x1:=(yy X1).cell 1 _ rfl;have r2:=(yy R1).cell 2 _ rfl;have f2:=(yy R1).free 2;have x2:=(yy X1).cell 2 _ rfl;by_cases h1:m=1
 ·subst h1
  have HR:Hid (bq s.data.toList=some ⟨6,[],0⟩):=yz (by
   have:r=[]:=by have:=yy HM;simpa using this
   rw[yy HL,this]
   rfl)
  go_wp2;refine bodyPost_ret (v:=.tuple #[.agg #[.string ⟨#[115,116,97,116,101]⟩,.string ⟨#[]⟩,J Y 0],.bool true]) ?_ rfl ⟨fk (yy HR),?_⟩
  ·refine cf _ _ w.heap.size _ _ _ true rfl rfl ?_ ?_ ?_<;>go_simp
  ·skip;iterate 3 (refine Below.setCell ?_ (Nat.le_refl w.heap.size) _)
   exact yy B1
 ·have hb:((m:Int)==1)=false:=by simpa using(show (m:Int)≠1 by omega)
  have HR:Hid (bq s.data.toList=none):=yz (by
   have:r≠[]:=fun e=>by have h:=yy HM;rw[e]at h;simp at h;omega
   rw[yy HL]
   match r,this with
   | y :: ys,_=>rfl)
  go_wp2;refine bodyPost_ret (v:=.tuple #[.agg #[.string ⟨#[115,116,97,116,101]⟩,.string ⟨#[]⟩,J Y 0],.bool false]) ?_ rfl ⟨dt (yy HR) _ _ _,?_⟩
  ·refine cf _ _ w.heap.size _ _ _ false rfl rfl ?_ ?_ ?_<;>go_simp
  ·skip;iterate 3 (refine Below.setCell ?_ (Nat.le_refl w.heap.size) _)
   exact yy B1
theorem uO(s:ByteArray)(p0:List UInt8)(r:List (List UInt8))(w:World)(hs:s.size≤8000)(hp:pcs 32 s.data.toList=p0 :: r)(nBlind:p0≠jp)(nDrift:p0≠jq)(nIds:p0≠sK)(nMove:p0≠mc)(nReset:p0≠jr)(nSee:p0≠sL)(nState:p0≠js):
  Calls Tryz.prog 20 #[.string s] w fun e w'=>eB s e∧Below w.heap.size w w':=by
 have HL:Hid (bq s.data.toList=none):=yz (by rw[fK hp,if_neg nBlind,if_neg nDrift,if_neg nIds,if_neg nMove,if_neg nReset,if_neg nSee,if_neg nState]);obtain⟨pb,hpb⟩:∃pb:ByteArray,(⟨p0.toArray⟩:ByteArray)=pb:=⟨_,rfl⟩
 have eBlind:(pb.toList==[98,108,105,110,100])=false:=fQ (l:=[98,108,105,110,100]) (fun e=>nBlind (by rw[←hpb]at e;have:=congrArg (fun b:ByteArray=>b.data.toList) e;simpa[jp] using this));have eDrift:(pb.toList==[100,114,105,102,116])=false:=fQ (l:=[100,114,105,102,116]) (fun e=>nDrift (by rw[←hpb]at e;have:=congrArg (fun b:ByteArray=>b.data.toList) e;simpa[jq] using this));have eIds:(pb.toList==[105,100,115])=false:=fQ (l:=[105,100,115]) (fun e=>nIds (by rw[←hpb]at e;have:=congrArg (fun b:ByteArray=>b.data.toList) e;simpa[sK] using this));have eMove:(pb.toList==[109,111,118,101])=false:=fQ (l:=[109,111,118,101]) (fun e=>nMove (by rw[←hpb]at e;have:=congrArg (fun b:ByteArray=>b.data.toList) e;simpa[mc] using this));have eReset:(pb.toList==[114,101,115,101,116])=false:=fQ (l:=[114,101,115,101,116]) (fun e=>nReset (by rw[←hpb]at e;have:=congrArg (fun b:ByteArray=>b.data.toList) e;simpa[jr] using this));have eSee:(pb.toList==[115,101,101])=false:=fQ (l:=[115,101,101]) (fun e=>nSee (by rw[←hpb]at e;have:=congrArg (fun b:ByteArray=>b.data.toList) e;simpa[sL] using this));have eState:(pb.toList==[115,116,97,116,101])=false:=fQ (l:=[115,116,97,116,101]) (fun e=>nState (by rw[←hpb]at e;have:=congrArg (fun b:ByteArray=>b.data.toList) e;simpa[js] using this));have HCT:=yz (fy 32 s.data.toList);have cS:Hid (Calls Tryz.prog 17 #[.string s,.int .u8 32] (w.alloc (.cells #[.string ⟨#[]⟩,.string ⟨#[]⟩,J Y 0] 53)) fun e w'=>(∃v,e=.returned v∧co w' (w.alloc (.cells #[.string ⟨#[]⟩,.string ⟨#[]⟩,J Y 0] 53)).heap.size v (p0 :: r))∧Below (w.alloc (.cells #[.string ⟨#[]⟩,.string ⟨#[]⟩,J Y 0] 53)).heap.size (w.alloc (.cells #[.string ⟨#[]⟩,.string ⟨#[]⟩,J Y 0] 53)) w'):=yz (by have:=cH s 32 (w.alloc (.cells #[.string ⟨#[]⟩,.string ⟨#[]⟩,J Y 0] 53)) hs;rw[hp]at this;exact this);rw[hp]at HCT;clear hp;have B0:=yz (an w (.cells #[.string ⟨#[]⟩,.string ⟨#[]⟩,J Y 0] 53));have R0:=yz (aq w [.string ⟨#[]⟩,.string ⟨#[]⟩,J Y 0] 53);go_enter Tryz.func20,Tryz.ntmps20;go_wp2_with fail;refine(yy cS).mono ?_;rintro e w1 ⟨⟨v,rfl,ht⟩,hx⟩;obtain⟨g,cap,rfl,hc1,hc2,hgb,hg,hcell⟩:=eM ht (by simp);have hm8:maxLen≤9223372036854775807:=by decide +kernel
 have Z:=an w1 (.cells #[.string pb,.string ⟨#[]⟩,J Y 0] 53);have B1:=ax (ax B0 hx) Z;have R1:=aQ R0 hx Z;have X1:=yz (aq w1 [.string pb,.string ⟨#[]⟩,J Y 0] 53);have c0:w1.cell? ⟨g,0,none⟩=some (.string pb):=by rw[←hpb];exact hcell 0 _ rfl
 have d0:=eZ c0 Z;have HCL:=yz (fun (j:Nat) x h=>eZ (hcell j x h) Z);have hrl:w.heap.size<w1.heap.size:=by have:=hx.size;have:=(yy R0).lt;omega
 clear cS ht hx hcell Z R0 B0;obtain⟨m,hm⟩:∃m,(p0 :: r).length=m:=⟨_,rfl⟩
 have HM:=yz hm;rw[hm]at hc1 HCT ⊢;have hm1:1≤m:=by rw[←hm];simp
 have hm9:m≤8001:=by have:=yy HCT;rw[be]at this;omega
 clear hm;go_upto_region 3 with fail;clear c0;generalize w1.alloc (.cells #[.string pb,.string ⟨#[]⟩,J Y 0] 53)=W2 at *;generalize w1.heap.size=xb at *;have r0:=(yy R1).cell 0 _ rfl;have f0:=(yy R1).free 0;have x0:=(yy X1).cell 0 _ rfl;have r1:=(yy R1).cell 1 _ rfl;have f1:=(yy R1).free 1;have x1:=(yy X1).cell 1 _ rfl;have r2:=(yy R1).cell 2 _ rfl;have f2:=(yy R1).free 2;have x2:=(yy X1).cell 2 _ rfl;clear hpb;go_wp2;refine bodyPost_ret (v:=.tuple #[.agg #[.string pb,.string ⟨#[]⟩,J Y 0],.bool false]) ?_ rfl ⟨dt (yy HL) _ _ _,?_⟩
 ·refine cf _ _ w.heap.size _ _ _ false rfl rfl ?_ ?_ ?_<;>go_simp
 ·skip;iterate 3 (refine Below.setCell ?_ (Nat.le_refl w.heap.size) _)
  exact yy B1
theorem xe(s:ByteArray)(w:World)(hs:s.size≤8000):
  Calls Tryz.prog 20 #[.string s] w fun e w'=>eB s e∧Below w.heap.size w w':=by
 cases hp:pcs 32 s.data.toList with
 | nil=>exact absurd hp (kj _ _)
 | cons p0 r=>
  by_cases nBlind:p0=jp
  ·subst nBlind;exact sl s r w hs hp
  by_cases nDrift:p0=jq
  ·subst nDrift;exact sn s r w hs hp
  by_cases nIds:p0=sK
  ·subst nIds;exact wZ s r w hs hp
  by_cases nMove:p0=mc
  ·subst nMove;exact uN s r w hs hp
  by_cases nReset:p0=jr
  ·subst nReset;exact sr s r w hs hp
  by_cases nSee:p0=sL
  ·subst nSee;exact xc s r w hs hp
  by_cases nState:p0=js
  ·subst nState;exact ss s r w hs hp
  exact uO s p0 r w hs hp nBlind nDrift nIds nMove nReset nSee nState
end
section
open Go.Value renaming int → J
open Go.IntKind renaming i64 → Z
open Go.RowKit
def iV:List St:=[(1,0,0,1),(2,1,0,2),(3,0,1,3),(4,-1,-1,2),(5,2,1,5),(6,1,0,0)]
def Fv:List Int:=[1,0,0,1,2,1,0,2,3,0,1,3,4,-1,-1,2,5,2,1,5,6,1,0,0]
def fY:Obj:=.cells #[J Z 1,J Z 0,J Z 0,J Z 1,J Z 2,J Z 1,J Z 0,J Z 2,J Z 3,J Z 0,J Z 1,J Z 3,J Z 4,J Z (-1),J Z (-1),J Z 2,J Z 5,J Z 2,J Z 1,J Z 5,J Z 6,J Z 1,J Z 0,J Z 0] 74
theorem zT(w:World):fA (w.alloc fY) 74 w.heap.size (6*4) (fun j=>Fv.getD j 0):=by
 refine⟨_,heap_alloc_new w fY,fun j hj=>?_⟩
 match j,hj with
 | 0,_=>rfl
 | 1,_=>rfl
 | 2,_=>rfl
 | 3,_=>rfl
 | 4,_=>rfl
 | 5,_=>rfl
 | 6,_=>rfl
 | 7,_=>rfl
 | 8,_=>rfl
 | 9,_=>rfl
 | 10,_=>rfl
 | 11,_=>rfl
 | 12,_=>rfl
 | 13,_=>rfl
 | 14,_=>rfl
 | 15,_=>rfl
 | 16,_=>rfl
 | 17,_=>rfl
 | 18,_=>rfl
 | 19,_=>rfl
 | 20,_=>rfl
 | 21,_=>rfl
 | 22,_=>rfl
 | 23,_=>rfl
 | k+24,h=>exact absurd h (by omega)
theorem sZ{w:World}{g:Nat}(h:fA w 74 g (6*4) (fun j=>Fv.getD j 0)):aZ w (some ⟨g,0,none⟩) iV 6:=by
 refine .inr ⟨g,0,rfl,h.lt,fun i hi=>?_⟩;rw[Nat.zero_add];refine⟨?_,?_,?_,?_⟩
 ·rw[h.cell (j:=i*4) (by omega)]
  match i,hi with
  | 0,_ | 1,_ | 2,_ | 3,_ | 4,_ | 5,_=>rfl
 ·rw[h.cell (j:=i*4+1) (by omega)]
  match i,hi with
  | 0,_ | 1,_ | 2,_ | 3,_ | 4,_ | 5,_=>rfl
 ·rw[h.cell (j:=i*4+2) (by omega)]
  match i,hi with
  | 0,_ | 1,_ | 2,_ | 3,_ | 4,_ | 5,_=>rfl
 ·rw[h.cell (j:=i*4+3) (by omega)]
  match i,hi with
  | 0,_ | 1,_ | 2,_ | 3,_ | 4,_ | 5,_=>rfl
theorem ws(w:World):Calls Tryz.prog 42 #[] w fun e w'=>e=.returned (.slice (some ⟨w.heap.size,0,none⟩) 6 6)∧w'=w.alloc fY:=by
 go_enter Tryz.func42,Tryz.ntmps42;go_wp2;go_ret;exact⟨rfl,rfl⟩
theorem vw(w:World):Calls Tryz.prog 19 #[] w fun e w'=>e=.returned (.slice (some ⟨w.heap.size,0,none⟩) 6 6)∧w'=w.alloc fY:=by
 go_enter Tryz.func19,Tryz.ntmps19;go_wp2;go_ret;exact⟨rfl,rfl⟩
end
end Go.Proofs.YtdchjcadhlkpfaaGreatDoor
