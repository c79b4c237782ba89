/- Several texts in one: SpA, NaE, L7B, IeA, IeB, IeC, IeD, IeE, IeF, IeG, ObW. -/
import Derived.WideShapes
import Derived.Maps.OwnSet
import Derived.Maps.Views
import Derived.Test.YteoonaanoenjiaaGreatDoorL26
import Derived.Test.YteoonaanoenjiaaGreatDoorL21
namespace Go.Proofs.YteoonaanoenjiaaGreatDoor
set_option linter.unusedVariables false
set_option linter.unusedSimpArgs false
set_option maxRecDepth 100000
set_option maxHeartbeats 8000000
section
open Go.Value renaming int → J
open Go.IntKind renaming i64 → Z
open Go.RowKit Go.Sort
def kF(su sx sy:Int):Bool:=decide (1≤su∧su≤10000∧0≤sx∧sx≤15*su∧0≤sy∧sy≤11*su)
def mJ(fo:Int):Bool:=decide (1≤fo∧fo≤40)
theorem gu{su sx sy:Int}(h:su<1∨10000<su∨sx<0∨15*su<sx∨sy<0∨11*su<sy):kF su sx sy=false:=by
 unfold kF;exact decide_eq_false (by omega)
def spX(sx wd su:Int):Int:=2*sx-(wd-1)*su
def spZ(fo su:Int):Int:=2*fo*su
def jg(su sx sy wd ht:Int)(s:ByteArray)(fo:Int):Bool:=kF su sx sy&&di wd ht s&&mJ fo
def spI(ok:Bool)(x y z c:Int):Int:=if ok then prI true (gI x y z) c else 0
def spV(su sx sy wd ht:Int)(s:ByteArray)(fo:Int):Value:=
 .agg #[J Z (spI (jg su sx sy wd ht s fo) (spX sx wd su) (spX sy ht su) (spZ fo su) (spX sx wd su)),J Z (spI (jg su sx sy wd ht s fo) (spX sx wd su) (spX sy ht su) (spZ fo su) (spX sy ht su)),J Z (spI (jg su sx sy wd ht s fo) (spX sx wd su) (spX sy ht su) (spZ fo su) (spZ fo su))]
variable {s:ByteArray}
theorem lz{su sx sy wd ht fo:Int}(h:jg su sx sy wd ht s fo=false):spV su sx sy wd ht s fo=.agg #[J Z 0,J Z 0,J Z 0]:=by unfold spV spI;rw[h];rfl
theorem oY{su sx sy wd ht fo:Int}(h:jg su sx sy wd ht s fo=true):
  (1≤su∧su≤10000∧0≤sx∧sx≤15*su∧0≤sy∧sy≤11*su)∧(1≤wd∧wd≤16∧1≤ht∧ht≤12)∧(1≤fo∧fo≤40)∧(0≤(wd-1)*su∧(wd-1)*su≤150000)∧(0≤(ht-1)*su∧(ht-1)*su≤110000)∧(2≤2*fo*su∧2*fo*su≤800000):=by
 unfold jg at h;rw[Bool.and_eq_true,Bool.and_eq_true]at h;obtain⟨⟨h1,h2⟩,h3⟩:=h;have a:=of_decide_eq_true h1;have b:=gO.1 h2;have c:=of_decide_eq_true h3;have m1:=Int.mul_le_mul (show wd-1≤15 by omega) a.2.1 (by omega) (by omega);have m2:=Int.mul_le_mul (show ht-1≤11 by omega) a.2.1 (by omega) (by omega);have m3:=Int.mul_le_mul (show 2*fo≤80 by omega) a.2.1 (by omega) (by omega);have m4:=Int.mul_le_mul (show 2≤2*fo by omega) a.1 (by omega) (by omega);have n1:=Int.mul_nonneg (show 0≤wd-1 by omega) (show 0≤su by omega);have n2:=Int.mul_nonneg (show 0≤ht-1 by omega) (show 0≤su by omega);exact⟨a,⟨b.1,b.2.1,b.2.2.1,b.2.2.2.1⟩,c,⟨n1,by omega⟩,⟨n2,by omega⟩,⟨by omega,by omega⟩⟩
theorem yX{su sx sy wd ht fo:Int}(h:jg su sx sy wd ht s fo=true):ax (spX sx wd su) (spX sy ht su) (spZ fo su)=true:=by
 obtain⟨a,b,c,d,e,f⟩:=oY h;unfold spX spZ;generalize (wd-1)*su=p at *;generalize (ht-1)*su=q at *;generalize 2*fo*su=r at *;rw[bC];refine⟨⟨?_,?_,?_⟩,?_⟩<;>omega
theorem Cn{su sx sy wd ht fo:Int}(h:jg su sx sy wd ht s fo=true):spV su sx sy wd ht s fo=.agg #[J Z (prI true (gI (spX sx wd su) (spX sy ht su) (spZ fo su)) (spX sx wd su)),J Z (prI true (gI (spX sx wd su) (spX sy ht su) (spZ fo su)) (spX sy ht su)),J Z (prI true (gI (spX sx wd su) (spX sy ht su) (spZ fo su)) (spZ fo su))]:=by
 unfold spV spI;rw[h];rfl
theorem pH(fo:Int)(w:World):Calls Tryz.prog 78 #[J Z fo] w fun e w'=>e=.returned (.bool (mJ fo))∧w'=w:=by
 by_cases h:1≤fo
 ·go_enter Tryz.func78,Tryz.ntmps78;go_wp2_with fail;go_ret;exact⟨by unfold mJ;simp[h],rfl⟩
 ·go_enter Tryz.func78,Tryz.ntmps78;go_wp2_with fail;go_ret;exact⟨by rw[show mJ fo=false from decide_eq_false (by omega)];rfl,rfl⟩
theorem tL(ar su sx sy:Int)(ed:Bool)(w:World):
  Calls Tryz.prog 187 #[.agg #[J Z ar,J Z su,J Z sx,J Z sy,.bool ed]] w fun e w'=>e=.returned (.bool (kF su sx sy))∧Below w.heap.size w w':=by
 by_cases h1:1≤su
 case neg=>
  go_enter Tryz.func187,Tryz.ntmps187;go_wp2_with fail;go_ret;exact⟨by rw[gu (by omega)];rfl,ak _ _⟩
 by_cases h2:su≤10000
 case neg=>
  go_enter Tryz.func187,Tryz.ntmps187;go_wp2_with fail;go_ret;exact⟨by rw[gu (by omega)];rfl,ak _ _⟩
 by_cases h3:0≤sx
 case neg=>
  go_enter Tryz.func187,Tryz.ntmps187;go_wp2_with fail;go_ret;exact⟨by rw[gu (by omega)];rfl,ak _ _⟩
 by_cases h4:sx≤15*su
 case neg=>
  go_enter Tryz.func187,Tryz.ntmps187;go_wp2_with fail;go_ret;exact⟨by rw[gu (by omega)];rfl,ak _ _⟩
 by_cases h5:0≤sy
 case neg=>
  go_enter Tryz.func187,Tryz.ntmps187;go_wp2_with fail;go_ret;exact⟨by rw[gu (by omega)];rfl,ak _ _⟩
 have HW:Hid (kF su sx sy=decide (sy≤11*su)):=yz (by unfold kF;simp[h1,h2,h3,h4,h5]);go_enter Tryz.func187,Tryz.ntmps187;go_wp2_with fail;go_ret;exact⟨by rw[yx HW];rfl,ak _ _⟩
theorem yl(ar su sx sy:Int)(ed:Bool)(wd ht:Int)(s:ByteArray)(fo:Int)(w:World)(h:jg su sx sy wd ht s fo=true):
  Calls Tryz.prog 147 #[.agg #[J Z ar,J Z su,J Z sx,J Z sy,.bool ed],.agg #[J Z wd,J Z ht,.string s],J Z fo] w fun e w'=>e=.returned (.agg #[J Z (spX sx wd su),J Z (spX sy ht su),J Z (spZ fo su)])∧Below w.heap.size w w':=by
 obtain⟨⟨a1,a2,a3,a4,a5,a6⟩,⟨b1,b2,b3,b4⟩,⟨c1,c2⟩,⟨d1,d2⟩,⟨e1,e2⟩,⟨f1,f2⟩⟩:=oY h;unfold spX spZ;have m1:wrap64 ((wd-1)*su)=(wd-1)*su:=aq (by omega) (by omega);have m2:wrap64 ((ht-1)*su)=(ht-1)*su:=aq (by omega) (by omega);have m3:wrap64 (2*fo*su)=2*fo*su:=aq (by omega) (by omega);clear h;go_enter Tryz.func147,Tryz.ntmps147;go_wp2_with fail;exact bodyPost_ret (v:=.agg #[J Z (2*sx-(wd-1)*su),J Z (2*sy-(ht-1)*su),J Z (2*fo*su)]) (by simp[results,Tryz.results147,go_sem]) rfl ⟨rfl,bq _ _ _ _⟩
end
section
open Go.RowKit Go.Sort
end
section
open Go.RowKit Go.Deep Go.ChangeShapes
end
section
open Go.RowKit Go.Sort
def nh(w:World)(b:Nat)(v0 v1 v2:Value)(c m:Int):Prop:=w.cell? ⟨b,0,none⟩=some v0∧w.cell? ⟨b,1,none⟩=some v1∧w.cell? ⟨b,2,none⟩=some v2∧w.cell? ⟨b,3,none⟩=some (.int .i64 c)∧w.cell? ⟨b,4,none⟩=some (.int .i64 m)
variable {a:Addr} {c m:Int} {ids:List Int} {xs:List Value} {b x:Nat} {ir:Option Addr} {t:TypeId} {v v0 v1 v2:Value} {w w':World}
theorem bA(h:w.cell? a=some v)(hB:Below w.heap.size w w'):w'.cell? a=some v:=(hB.cell (World.block_lt_of_cell? w a h)).trans h
theorem eK{row:Option Nat}(h:w.cell? a=some v)(hg:w.grownBy w' row)(hne:some a.block≠row):w'.cell? a=some v:=(World.cell?_of_block (hg.block a.block (World.block_lt_of_cell? w a h) hne)).trans h
theorem nh.kept(h:nh w b v0 v1 v2 c m)(hB:Below w.heap.size w w'):nh w' b v0 v1 v2 c m:=⟨bA h.1 hB,bA h.2.1 hB,bA h.2.2.1 hB,bA h.2.2.2.1 hB,bA h.2.2.2.2 hB⟩
theorem nh.lt(h:nh w b v0 v1 v2 c m):b<w.heap.size:=World.block_lt_of_cell? w _ h.1
def iK(w:World)(b:Nat):Prop:=∀i,w.frozen? ⟨b,i,none⟩=false
theorem iK.kept(h:iK w b)(hb:b<w.heap.size)(hB:Below w.heap.size w w'):iK w' b:=fun i=>(hB.frozen (p:=⟨b,i,none⟩) hb).trans (h i)
theorem iK.set(h:iK w b)(p:Addr)(v:Value):iK (w.setCell p v) b:=fun i=>by rw[World.frozen?_setCell];exact h i
def ml(w:World)(x:Nat)(ir:Option Addr)(ids:List Int):Prop:=(ids=[]∧ir=none)∨∃g,ir=some ⟨g,0,none⟩∧g≠x∧g<w.heap.size∧∀i,i<ids.length→w.cell? ⟨g,i,none⟩=some (.int .i64 (ids.getD i 0))
theorem ml.nums(h:ml w x ir ids):ij w ir ids ids.length:=by
 rcases h with ⟨rfl,_⟩ | ⟨g,rfl,_,hl,hc⟩
 ·exact .inl rfl
 ·exact .inr ⟨g,0,rfl,hl,fun i hi=>by rw[Nat.zero_add];exact hc i hi⟩
theorem ml.grown(h:ml w x ir ids)(hg:w.grownBy w' (some x)):ml w' x ir ids:=by
 rcases h with h | ⟨g,hi,hn,hl,hc⟩
 ·exact .inl h
 ·exact .inr ⟨g,hi,hn,Nat.lt_of_lt_of_le hl hg.size,fun i hi=>eK (hc i hi) hg (fun e=>hn (Option.some.inj e))⟩
def vG(a:Option Addr)(x:Nat):Prop:=∀y,a=some y→y.block≠x
theorem JK{a:Option Addr}{L:List St}{n:Nat}(h:aH w a L n)(hg:w.grownBy w' (some x))(hne:vG a x):aH w' a L n:=by
 rcases h with h | ⟨b,o,rfl,hb,hc⟩
 ·exact .inl h
 ·refine .inr ⟨b,o,rfl,Nat.lt_of_lt_of_le hb hg.size,fun i hi=>?_⟩;have hn:∀k,some (⟨b,k,none⟩:Addr).block≠some x:=fun k e=>hne _ rfl (Option.some.inj e);obtain⟨c0,c1,c2,c3⟩:=hc i hi;exact⟨eK c0 hg (hn _),eK c1 hg (hn _),eK c2 hg (hn _),eK c3 hg (hn _)⟩
theorem JT{a:Option Addr}{L:List D3}{n:Nat}(h:bi w a L n)(hg:w.grownBy w' (some x))(hne:vG a x):bi w' a L n:=by
 rcases h with h | ⟨b,o,rfl,hb,hc⟩
 ·exact .inl h
 ·refine .inr ⟨b,o,rfl,Nat.lt_of_lt_of_le hb hg.size,fun i hi=>?_⟩;have hn:∀k,some (⟨b,k,none⟩:Addr).block≠some x:=fun k e=>hne _ rfl (Option.some.inj e);obtain⟨c0,c1,c2⟩:=hc i hi;exact⟨eK c0 hg (hn _),eK c1 hg (hn _),eK c2 hg (hn _)⟩
structure kV (w:World) (x:Nat) (L:List St) (S:List D3) (ar br:Option Addr) (cr dr:Nat) (s:SeN):Prop where
 cells:∃v,nh w x (.slice ar L.length cr) (.slice br S.length dr) v (s.count:Int) (s.many:Int)∧w.ownsRow (x+1) 2 1 v s.best.length (gR s.best)
 free:iK w x
 stars:aH w ar L L.length
 dirs:bi w br S S.length
 apS:vG ar x
 apD:vG br x
theorem Ia{B n m:Nat}(h:w.ownsRow B t m v n xs)(hB:Below w.heap.size w w'):w'.ownsRow B t m v n xs:=by
 obtain⟨h1,h2⟩:=h;refine⟨h1,?_⟩;rcases h2 with h2 | ⟨g,c',cur,e,hg,hh,r⟩
 ·exact .inl h2
 ·exact .inr ⟨g,c',cur,e,hg,by rw[hB.block g (Array.getElem?_eq_some_iff.1 hh).1];exact hh,r⟩
theorem qJ{n m:Nat}(h:w.ownsRow (x+1) t m v n xs)(o:Nat)(y:Value):(w.setCell ⟨x,o,none⟩ y).ownsRow (x+1) t m v n xs:=by
 obtain⟨h1,h2⟩:=h;refine⟨h1,?_⟩;rcases h2 with h2 | ⟨g,c',cur,e,hg,hh,r⟩
 ·exact .inl h2
 ·exact .inr ⟨g,c',cur,e,hg,by rw[Below.heap_setCell w ⟨x,o,none⟩ y g (by show g≠x;omega)];exact hh,r⟩
theorem dl(h:Below w.heap.size w w'):w.grownBy w' (some x):=⟨h.os,h.tape,h.output,h.size,fun k hk _=>h.block k hk⟩
theorem kV.kept{L:List St}{S:List D3}{ar br:Option Addr}{cr dr:Nat}{s:SeN}(h:kV w x L S ar br cr dr s)(hB:Below w.heap.size w w'):kV w' x L S ar br cr dr s:=by
 obtain⟨⟨v,h1,h2⟩,hf,hs,hd,a1,a2⟩:=h;exact⟨⟨v,h1.kept hB,Ia h2 hB⟩,hf.kept h1.lt hB,hs.kept hB,hd.kept hB,a1,a2⟩
def dB(L:List St)(S:List D3)(ids:List Int)(a:Int):Bool:=jH L S ids (vA S ids.length,(a,atV L L.length a)) ids.length
def xc(L:List St)(ids:List Int):Prop:=∀i,i<ids.length→ids.getD i 0≠0→aN (atV L L.length (ids.getD i 0)).1 (atV L L.length (ids.getD i 0)).2.1 (atV L L.length (ids.getD i 0)).2.2=true
def Ew(L:List St)(S:List D3)(ar br:Option Addr)(cr dr x r:Nat):Prop:=∀(ids:List Int) (s:SeN) (ir:Option Addr) (er:Nat) (w:World),ids.length+r=S.length→xc L ids→s.many+13 ^ r≤100000000→s.count≤6→(ir=none→er=0)→ml w x ir ids→kV w x L S ar br cr dr s →
  Calls Tryz.prog 177 #[.pointer (some ⟨x,0,none⟩),.slice ir ids.length er,.int .i64 (aQ ids:Int)] w fun e w'=>(∃v,e=.returned v)∧kV w' x L S ar br cr dr (eR (dB L S) (L.map (·.1)) r ids s)∧w.grownBy w' (some x)
theorem rE(L:List St)(S:List D3)(ar br:Option Addr)(cr dr x r:Nat)(hm6:S.length≤6)(ids:List Int)(s:SeN)(ir:Option Addr)(er:Nat)(w:World)(hl:ids.length+r=S.length)(hc6:s.count≤6)(hst:kV w x L S ar br cr dr s)(hp:aQ ids+r<s.count):
  Calls Tryz.prog 177 #[.pointer (some ⟨x,0,none⟩),.slice ir ids.length er,.int .i64 (aQ ids:Int)] w fun e w'=>(∃v,e=.returned v)∧kV w' x L S ar br cr dr (eR (dB L S) (L.map (·.1)) r ids s)∧w.grownBy w' (some x):=by
 have HS:=yz hst;have HF:=yz (xY (F:=dB L S) (A:=L.map (·.1)) hp);obtain⟨⟨v,h1,h2⟩,hf,hs,hd,a1,a2⟩:=hst;obtain⟨c0,c1,c2,c3,c4⟩:=h1;have r1:=cell_regrown c1;have r3:=cell_regrown c3;have hc:=lK ids;generalize aQ ids=cn at *;generalize ids.length=k at *;generalize S.length=m at *;clear h2 hf hs hd a1 a2 c0 c1 c2 c3 c4;have hq:(cn:Int)+(m:Int)-(k:Int)<(s.count:Int):=by omega
 go_enter Tryz.func177,Tryz.ntmps177;go_wp2_with fail;refine bQ ?_;repeat (go_big_quiet_step (fail))
 refine bW fun dq osq=>?_;have hx:=below_regrown w dq osq;go_wp2_with fail;refine bodyPost_ret (results_none rfl _ _ _) rfl ?_;exact⟨⟨_,rfl⟩,by rw[yx HF];exact(yx HS).kept hx,dl hx⟩
end
section
open Go.Value renaming int → J
open Go.IntKind renaming i64 → Z
open Go.RowKit Go.Sort
theorem qt{P:Program}(w:World)(t ty e:TypeId)(i:TypeInfo)(ht:P.underlying t=some (.slice e))(hi:P.info? e=some i)(g:Nat):
  (Builtin.append_ #[t,t] ty #[.slice (some ⟨g,0,none⟩) 0 0,.slice none 0 0]).run P w=.ok (.slice (some ⟨g,0,none⟩) 0 0) w:=by
 simp[Builtin.append_,run_underlying ht,sizeOf,typeInfo,hi,Builtin.lenOf,Builtin.firstCells,loadCells,loadCellsFrom,storeCells]
variable {c m:Int} {b g x:Nat} {v0 v1 v2:Value} {w w' w1 w2:World}
theorem Hs{ids:List Int}(hc:∀i,i<ids.length→w.cell? ⟨g,i,none⟩=some (J Z (ids.getD i 0)))(j:Nat)(u:Value)(hj:(gR ids)[j]? = some u):w.cell? ((⟨g,0,none⟩:Addr).add j)=some u:=by
 have hA:(⟨g,0,none⟩:Addr).add j=⟨g,0+j,none⟩:=by unfold Addr.add;split<;>simp_all
 unfold gR at hj;rw[List.getElem?_map]at hj
 have hlt:j<ids.length:=by
  rcases Nat.lt_or_ge j ids.length with h | h
  ·exact h
  ·rw[List.getElem?_eq_none h]at hj;cases hj
 rw[hA,Nat.zero_add,hc j hlt];rw[List.getElem?_eq_getElem hlt]at hj;rw[List.getD_eq_getElem?_getD,List.getElem?_eq_getElem hlt];exact hj
theorem Fb(ids:List Int):(gR ids).length=ids.length:=by unfold gR;rw[List.length_map]
theorem gH(w:World){ops:Array Oper}{rest:List Oper}{o:Oper}{a:Act}{Q:Exit→Act→World→Prop}(hgd:o.guard=none)(s x:Operand)
  (ho:o.op=.call { callee:=.builtin .append,args:=#[s,x],argTypes:=#[188,188] })
  (base g:Nat) (hs:a.eval s=.slice (some ⟨g,0,none⟩) 0 0) (hown:w.ownsRow base 2 1 (.slice (some ⟨g,0,none⟩) 0 0) 0 []) (y:Nat) (ir:Option Addr) (er:Nat) (ids:List Int) (hx:a.eval x=.slice ir ids.length er) (he:ir=none→er=0) (hI:ml w y ir ids) (hk:ids.length≤6) (hbase:base≤w.heap.size)
  (h:∀v' w',w'.ownsRow base 2 1 v' ids.length (gR ids)→w.grownBy w' (some g)→wpList Tryz.prog ops Q rest (a.put o.dst v') w'):wpList Tryz.prog ops Q (o :: rest) a w:=by
 obtain⟨i0,hinf,hz0,hz1,hz2⟩:=info_parts lg;rcases hI with ⟨rfl,rfl⟩ | ⟨b,rfl,_,hl,hc⟩
 ·obtain rfl:=he rfl;have hr:=qt (P:=Tryz.prog) w 188 o.type 2 i0 Tryz.underlying188 hinf g;refine wpList_plain hgd fun _ hK=>?_;unfold Oper.wp execOp;simp only[List.length_nil]at hx;simp only[ho,resolve,invoke,builtin,Sem.run_bind,Sem.run_pure,Result.andThen_ok,List.map_toArray,List.map_cons,List.map_nil,hs,hx,hr];exact hK _ _ (h _ _ hown ⟨rfl,rfl,rfl,Nat.le_refl _,fun _ _ _=>rfl⟩)
 ·have hm:6≤maxLen:=by decide +kernel
  refine wpList_append_own w hgd s x 188 ho base 2 i0 (J Z 0) 1 8 Tryz.underlying188 hinf hz0 hz1 hz2 rfl (by decide) _ 0 [] hs hown ⟨b,0,none⟩ ids.length er (gR ids) hx (by rw[Fb,Nat.mul_one]) (Hs hc) (fun u hu=>uO hu) (by omega) (by omega) hbase ?_;intro v' w' h2 h3 _;rw[Nat.zero_add,List.nil_append]at h2;exact h v' w' h2 h3
theorem ie{B n m:Nat}{t:TypeId}{v:Value}{xs:List Value}(h:w.ownsRow B t m v n xs):∃a cap,v=.slice a n cap:=by
 rcases h.2 with ⟨h1,h0⟩ | ⟨g,c',cur,e,_⟩
 ·exact⟨none,0,by rw[h1,h0]⟩
 ·exact⟨_,_,e⟩
theorem uF(h:w.grownBy w1 (some x))(o:Nat)(y:Value):w.grownBy (w1.setCell ⟨x,o,none⟩ y) (some x):=dv h o y
theorem BM(h:w.grownBy w1 (some x))(o:Obj):w.grownBy (w1.alloc o) (some x):=⟨h.os,h.tape,h.output,Nat.le_trans h.size (by simp),fun k hk hn=>(Below.heap_alloc w1 o k (Nat.lt_of_lt_of_le hk h.size)).trans (h.block k hk hn)⟩
theorem IN(h:w.grownBy w1 (some x))(hg:w1.grownBy w2 (some g))(hb:w.heap.size≤g):w.grownBy w2 (some x):=⟨hg.os.trans h.os,hg.tape.trans h.tape,hg.output.trans h.output,Nat.le_trans h.size hg.size,fun k hk hn=>(hg.block k (Nat.lt_of_lt_of_le hk h.size) (fun e=>by have:=Option.some.inj e;omega)).trans (h.block k hk hn)⟩
theorem jh(h:w.grownBy w1 (some x))(hg:w1.grownBy w2 (some x)):w.grownBy w2 (some x):=⟨hg.os.trans h.os,hg.tape.trans h.tape,hg.output.trans h.output,Nat.le_trans h.size hg.size,fun k hk hn=>(hg.block k (Nat.lt_of_lt_of_le hk h.size) hn).trans (h.block k hk hn)⟩
theorem nh.grown{row:Option Nat}(h:nh w b v0 v1 v2 c m)(hg:w.grownBy w' row)(hne:some b≠row):nh w' b v0 v1 v2 c m:=⟨eK h.1 hg hne,eK h.2.1 hg hne,eK h.2.2.1 hg hne,eK h.2.2.2.1 hg hne,eK h.2.2.2.2 hg hne⟩
theorem iK.grown{row:Option Nat}(h:iK w b)(hb:b<w.heap.size)(hg:w.grownBy w' row)(hne:some b≠row):iK w' b:=fun i=>by
 have h1:=h i;unfold World.frozen? at h1 ⊢;rw[hg.block b hb hne];exact h1
theorem Ik(h:nh w b v0 v1 v2 c m)(c' m':Int):nh ((w.setCell ⟨b,3,none⟩ (J Z c')).setCell ⟨b,4,none⟩ (J Z m')) b v0 v1 v2 c' m':=by
 obtain⟨h0,h1,h2,h3,h4⟩:=h;refine⟨?_,?_,?_,?_,?_⟩<;>simp[go_sem,h0,h1,h2,h3,h4]
theorem Ch(h:nh w b v0 v1 v2 c m)(v':Value)(m':Int):nh ((w.setCell ⟨b,2,none⟩ v').setCell ⟨b,4,none⟩ (J Z m')) b v0 v1 v' c m':=by
 obtain⟨h0,h1,h2,h3,h4⟩:=h;refine⟨?_,?_,?_,?_,?_⟩<;>simp[go_sem,h0,h1,h2,h3,h4]
theorem Ci{L:List St}{S:List D3}{ar br:Option Addr}{cr dr:Nat}{s s':SeN}{v':Value}(h:kV w x L S ar br cr dr s)(hg:w.grownBy w' (some x))(hc:nh w' x (.slice ar L.length cr) (.slice br S.length dr) v' (s'.count:Int) (s'.many:Int))(ho:w'.ownsRow (x+1) 2 1 v' s'.best.length (gR s'.best))(hf:iK w' x):kV w' x L S ar br cr dr s':=
 ⟨⟨v',hc,ho⟩,hf,JK h.stars hg h.apS,JT h.dirs hg h.apD,h.apS,h.apD⟩
theorem CS(L:List St)(S:List D3)(ar br:Option Addr)(cr dr x:Nat)(hm6:S.length≤6)(ids:List Int)(s:SeN)(ir:Option Addr)(er:Nat)(w:World)(hl:ids.length+0=S.length)(hmany:s.many+1≤100000000)(hc6:s.count≤6)(he:ir=none→er=0)(hI:ml w x ir ids)(hst:kV w x L S ar br cr dr s)(hp:¬aQ ids+0<s.count):
  Calls Tryz.prog 177 #[.pointer (some ⟨x,0,none⟩),.slice ir ids.length er,J Z (aQ ids:Int)] w fun e w'=>(∃v,e=.returned v)∧kV w' x L S ar br cr dr (eR (dB L S) (L.map (·.1)) 0 ids s)∧w.grownBy w' (some x):=by
 obtain⟨bst,ct,mn⟩:=s;dsimp only at hmany hc6 hp;have HS:=yz hst;have HI:=yz hI;have HF:=yz (zZ (F:=dB L S) (A:=L.map (·.1)) (s:=⟨bst,ct,mn⟩) hp);obtain⟨⟨v,h1,h2⟩,hf,hs,hd,a1,a2⟩:=hst;dsimp only at h1;obtain⟨c0,c1,c2,c3,c4⟩:=h1;have r1:=cell_regrown c1;have r3:=cell_regrown c3;have hc:=lK ids;obtain⟨cn,hcn⟩:∃cn,aQ ids=cn:=⟨_,rfl⟩
 have HCN:=yz hcn;rw[hcn]at hp hc ⊢;clear hcn;by_cases hgt:ct<cn
 ·have hk6:ids.length≤6:=by omega
  have HE:=yz he;have HKM:Hid (S.length=ids.length):=yz (by omega);clear h2 hf hs hd a1 a2 c0 c1 c2 c3 c4 hI he;rw[yx HKM]at r1;have hq:¬(cn:Int)<(ct:Int):=by omega
  go_enter Tryz.func177,Tryz.ntmps177;go_wp2_with fail;refine bQ ?_;repeat (go_big_quiet_step (fail))
  refine bW fun dq osq=>?_;have hx:=below_regrown w dq osq;generalize grow (redrawn w dq) osq=w1 at hx ⊢;have S1:=an HS hx;have I1:=yz ((yx HI).grown (dl hx));have B1:=yz hx;clear hx r1 r3 HS HI hq;obtain⟨⟨v,h1,h2⟩,hf,hs,hd,a1,a2⟩:=yx S1;dsimp only at h1;have H1:=yz h1;have HFr:=yz hf;have hxl:=h1.lt;obtain⟨c0,c1,c2,c3,c4⟩:=h1;rw[yx HKM]at c1;have f2:=hf 2;have f3:=hf 3;have f4:=hf 4;clear hf hs hd a1 a2 h2;have hgt':(ct:Int)<(cn:Int):=by omega
  have HO:Hid (dR ⟨bst,ct,mn⟩ ids=⟨ids,cn,1⟩):=yz (by unfold dR;rw[yx HCN,if_pos hgt]);have hz:((w1.setCell ⟨x,3,none⟩ (J Z (cn:Int))).setCell ⟨x,4,none⟩ (J Z 0)).heap.size=w1.heap.size:=by simp
  have HN:Hid ((((w1.setCell ⟨x,3,none⟩ (J Z (cn:Int))).setCell ⟨x,4,none⟩ (J Z 0)).alloc (.cells #[] 2)).ownsRow (x+1) 2 1 (.slice (some ⟨w1.heap.size,0,none⟩) 0 0) 0 []):=yz (by have:=jP ((w1.setCell ⟨x,3,none⟩ (J Z (cn:Int))).setCell ⟨x,4,none⟩ (J Z 0)) (x+1) (by omega);rw[hz]at this;exact this);have HG2:Hid (w1.grownBy (((w1.setCell ⟨x,3,none⟩ (J Z (cn:Int))).setCell ⟨x,4,none⟩ (J Z 0)).alloc (.cells #[] 2)) (some x)):=yz (BM (uF (uF (gP w1 (some x)) _ _) _ _) _);have I2:=yz ((yx I1).grown (yx HG2));have A2:=yz ((Ik (yx H1) (cn:Int) 0).kept (ak _ (.cells #[] 2)));have F2:=yz ((((yx HFr).set ⟨x,3,none⟩ (J Z (cn:Int))).set ⟨x,4,none⟩ (J Z 0)).kept (by omega) (ak _ (.cells #[] 2)));go_wp2_with (at_builtin;refine gH _ rfl _ _ rfl (x+1) w1.heap.size rfl (yx HN) x ir er ids rfl (yx HE) (yx I2) hk6 ?d1 ?_)
  case d1=>simp;omega
  intro v' w3 ho hg;obtain⟨av,cv,rfl⟩:=ie ho;have A3:=yz ((yx A2).grown hg (fun e=>by have:=Option.some.inj e;omega));have F3:=yz ((yx F2).grown (yx A2).lt hg (fun e=>by have:=Option.some.inj e;omega));have G3:=yz (IN (yx HG2) hg (Nat.le_refl _));have O3:=yz ho;clear ho hg c0 c1 c2 c3 c4 f2 f3 f4 HN HG2 I2 A2 F2 hz;obtain⟨c0,c1,c2,c3,c4⟩:=yx A3;have f2:=yx F3 2;have f4:=yx F3 4;go_wp2_with fail;refine bodyPost_ret (results_none rfl _ _ _) rfl ?_;have G4:=uF (uF (yx G3) 2 (.slice av ids.length cv)) 4 (J Z 1);refine⟨⟨_,rfl⟩,?_,jh (dl (yx B1)) G4⟩;rw[yx HF,yx HO];exact Ci (yx S1) G4 (Ch (yx A3) (.slice av ids.length cv) 1) (qJ (qJ (yx O3) _ _) _ _) (((yx F3).set _ _).set _ _)
 ·obtain rfl:cn=ct:=by omega
  have HO:Hid (dR ⟨bst,cn,mn⟩ ids=⟨ids,cn,mn+1⟩):=yz (by unfold dR;dsimp only;rw[yx HCN,if_neg hgt,if_pos rfl]);have HMN:=yz (show (mn:Int)+1≤100000000 by omega);clear hgt hp hmany;have hk6:ids.length≤6:=by omega
  have HE:=yz he;have HKM:Hid (S.length=ids.length):=yz (by omega);clear h2 hf hs hd a1 a2 c0 c1 c2 c3 c4 hI he;rw[yx HKM]at r1;go_enter Tryz.func177,Tryz.ntmps177;go_wp2_with fail;refine bQ ?_;repeat (go_big_quiet_step (fail))
  refine bW fun dq osq=>?_;have hx:=below_regrown w dq osq;generalize grow (redrawn w dq) osq=w1 at hx ⊢;have S1:=an HS hx;have I1:=yz ((yx HI).grown (dl hx));have B1:=yz hx;clear hx r1 r3 HS HI;obtain⟨⟨v,h1,h2⟩,hf,hs,hd,a1,a2⟩:=yx S1;dsimp only at h1;have H1:=yz h1;have HFr:=yz hf;have hxl:=h1.lt;obtain⟨c0,c1,c2,c3,c4⟩:=h1;rw[yx HKM]at c1;have f2:=hf 2;have f3:=hf 3;have f4:=hf 4;clear hf hs hd a1 a2 h2;have HN:Hid ((w1.alloc (.cells #[] 2)).ownsRow (x+1) 2 1 (.slice (some ⟨w1.heap.size,0,none⟩) 0 0) 0 []):=yz (jP w1 (x+1) (by omega));have HG2:Hid (w1.grownBy (w1.alloc (.cells #[] 2)) (some x)):=yz (BM (gP w1 (some x)) _);have I2:=yz ((yx I1).grown (yx HG2));have A2:=yz ((yx H1).kept (ak _ (.cells #[] 2)));have F2:=yz ((yx HFr).kept hxl (ak _ (.cells #[] 2)));go_wp2_with (at_builtin;refine gH _ rfl _ _ rfl (x+1) w1.heap.size rfl (yx HN) x ir er ids rfl (yx HE) (yx I2) hk6 ?d1 ?_)
  case d1=>simp;omega
  intro v' w3 ho hg;obtain⟨av,cv,rfl⟩:=ie ho;have A3:=yz ((yx A2).grown hg (fun e=>by have:=Option.some.inj e;omega));have F3:=yz ((yx F2).grown (yx A2).lt hg (fun e=>by have:=Option.some.inj e;omega));have G3:=yz (IN (yx HG2) hg (Nat.le_refl _));have O3:=yz ho;clear ho hg c0 c1 c2 c3 c4 f2 f3 f4 HN HG2 I2 A2 F2;obtain⟨c0,c1,c2,c3,c4⟩:=yx A3;have hmn:=yx HMN;have hmn0:(0:Int)≤(mn:Int):=by omega
  generalize hmi:(mn:Int)=mi at *;have f2:=yx F3 2;have f4:=yx F3 4;go_wp2_with fail;subst hmi;refine bodyPost_ret (results_none rfl _ _ _) rfl ?_;have G4:=uF (uF (yx G3) 2 (.slice av ids.length cv)) 4 (J Z ((mn:Int)+1));refine⟨⟨_,rfl⟩,?_,jh (dl (yx B1)) G4⟩;rw[yx HF,yx HO];exact Ci (yx S1) G4 (Ch (yx A3) (.slice av ids.length cv) ((mn:Int)+1)) (qJ (qJ (yx O3) _ _) _ _) (((yx F3).set _ _).set _ _)
end
section
open Go.RowKit Go.Sort
theorem Dk(ids:List Int)(a:Int):gR ids ++ [.int .i64 a]=gR (ids ++ [a]):=by unfold gR;rw[List.map_append];rfl
variable {ids:List Int} {xs:List Value} {cap:Nat} {a:Option Addr} {w:World}
theorem BO{B x:Nat}(h:w.ownsRow B 2 1 (.slice a ids.length cap) ids.length (gR ids))(hx:x<B):ml w x a ids:=by
 rcases h.2 with ⟨h1,h0⟩ | ⟨g,c',cur,e,hb,hg,hnc,hcm,hcs,htake⟩
 ·injection h1 with h1;exact .inl ⟨List.eq_nil_of_length_eq_zero h0,h1⟩
 ·injection e with e1;refine .inr ⟨g,e1,by omega,(Array.getElem?_eq_some_iff.1 hg).1,fun i hi=>?_⟩;rw[cell_of_row w g i cur _ _ hg]
  have e4:cur[i]? = (gR ids)[i]?:=by
   rw[←htake,List.getElem?_take,if_pos (by omega)];simp
  rw[e4];unfold gR;rw[List.getElem?_map,List.getElem?_eq_getElem hi,List.getD_eq_getElem?_getD,List.getElem?_eq_getElem hi];rfl
theorem yG{B n:Nat}(h:w.ownsRow B 2 1 (.slice a n cap) n xs)(ha:a=none):cap=0:=by
 rcases h.2 with ⟨h1,h0⟩ | ⟨g,c',cur,e,_⟩
 ·injection h1
 ·injection e with e1;rw[ha]at e1;cases e1
theorem FM{B n:Nat}{v:Value}(h:w.ownsRow B 2 1 v n xs)(g:Nat)(e:v.ownBlock=some g):B≤g:=by
 rcases h.2 with ⟨h1,_⟩ | ⟨g',c',cur,e',hb,_⟩
 ·rw[h1]at e;cases e
 ·rw[e']at e;simp[Value.ownBlock]at e;omega
theorem lE(w:World){ops:Array Oper}{rest:List Oper}{o:Oper}{a:Act}{Q:Exit→Act→World→Prop}(hgd:o.guard=none)(s x:Operand)
  (ho:o.op=.call { callee:=.builtin .append,args:=#[s,x],argTypes:=#[188,188] })
  (base:Nat) (v:Value) (ids:List Int) (hs:a.eval s=v) (hown:w.ownsRow base 2 1 v ids.length (gR ids)) (g:Nat) (z:Int) (hx:a.eval x=.slice (some ⟨g,0,none⟩) 1 1) (hc:w.cell? ⟨g,0,none⟩=some (.int .i64 z)) (hk:ids.length≤6) (hbase:base≤w.heap.size)
  (h:∀v' w',w'.ownsRow base 2 1 v' (ids ++ [z]).length (gR (ids ++ [z]))→w.grownBy w' v.ownBlock→wpList Tryz.prog ops Q rest (a.put o.dst v') w'):wpList Tryz.prog ops Q (o :: rest) a w:=by
 obtain⟨i0,hinf,hz0,hz1,hz2⟩:=info_parts lg;have hm:7≤maxLen:=by decide +kernel
 refine wpList_append_own w hgd s x 188 ho base 2 i0 (.int .i64 0) 1 8 Tryz.underlying188 hinf hz0 hz1 hz2 rfl (by decide) v ids.length (gR ids) hs hown ⟨g,0,none⟩ 1 1 [.int .i64 z] hx rfl ?_ (fun u hu=>by rw[List.mem_singleton.1 hu];rfl) (by omega) (by omega) hbase ?_
 ·intro j u hj
  match j,hj with
  | 0,hj=>
   obtain rfl:Value.int .i64 z=u:=by simpa using hj
   have hA:(⟨g,0,none⟩:Addr).add 0=⟨g,0,none⟩:=by unfold Addr.add;split<;>simp_all
   rw[hA];exact hc
  | j+1,hj=>simp at hj
 ·intro v' w' h2 h3 _;rw[Dk]at h2;exact h v' w' (by rw[List.length_append];exact h2) h3
theorem sO{L:List St}{a:Int}(h:xc L ids)(ha:a≠0→aN (atV L L.length a).1 (atV L L.length a).2.1 (atV L L.length a).2.2=true):xc L (ids ++ [a]):=by
 intro i hi h0;rw[List.length_append,List.length_singleton]at hi;by_cases e:i<ids.length
 ·have e1:(ids ++ [a]).getD i 0=ids.getD i 0:=by rw[List.getD_eq_getElem?_getD,List.getD_eq_getElem?_getD,List.getElem?_append_left e]
  rw[e1]at h0 ⊢;exact h i e h0
 ·have e1:(ids ++ [a]).getD i 0=a:=by
   rw[List.getD_eq_getElem?_getD,List.getElem?_append_right (by omega),show i-ids.length=0 by omega];rfl
  rw[e1]at h0 ⊢;exact ha h0
theorem zY(F:List Int→Int→Bool)(A:List Int):∀(r:Nat) (ids:List Int) (s:SeN),s.count≤6→ids.length+r≤6→(eR F A r ids s).count≤6:=by
 intro r ids s h1 h2;rw[ld];have hall:∀l∈fH F A r ids,aQ l≤6:=fun l hl=>by have:=ni F A r ids l hl;have:=lK ids;omega
 generalize fH F A r ids=M at hall
 induction M generalizing s with
 | nil=>exact h1
 | cons l M ih=>
  rw[List.foldl_cons];refine ih (dR s l) ?_ (fun x hx=>hall x (by simp[hx]));have h3:=xl s l;have h4:=hall l (by simp);omega
theorem rZ(F:List Int→Int→Bool)(A:List Int)(r:Nat)(ids:List Int)(s:SeN)(h1:s.count≤6)(h2:ids.length+1+r≤6):∀i,i≤A.length→(fQ F A r ids s i).count≤6
 | 0,_=>h1
 | i+1,h=>by
  rw[ky F A r ids s (by omega)];have h3:=rZ F A r ids s h1 h2 i (by omega);split
  ·exact zY F A r _ _ h3 (by rw[List.length_append,List.length_singleton];omega)
  ·exact h3
end
section
open Go.Value renaming int → J
open Go.IntKind renaming i64 → Z
open Go.RowKit Go.Sort
theorem Fl{L:List St}{i:Nat}(hi:i<L.length):(L.map (·.1)).getD i 0=(stA L i).1:=by
 unfold stA;rw[List.getD_eq_getElem?_getD,List.getElem?_map,List.getD_eq_getElem?_getD,List.getElem?_eq_getElem hi];rfl
theorem td{L:List St}(hk:bk L=true){i:Nat}(hi:i<L.length):aN (atV L L.length (stA L i).1).1 (atV L L.length (stA L i).1).2.1 (atV L L.length (stA L i).1).2.2=true∧(stA L i).1≠0:=by
 rw[zK hk hi];have h:=(eu hk).2 i hi;unfold fA at h;simp only[Bool.and_eq_true]at h;refine⟨?_,fun e=>?_⟩
 ·simp_all
 ·have:idB (stA L i).1=true:=by simp_all
  rw[e]at this;exact absurd this (by decide)
theorem CU(L:List St)(S:List D3)(ar br:Option Addr)(cr dr x r:Nat)(hk:bk L=true)(hsp:aL S=true)(hdr:S.length≤dr)(hd9:dr≤9223372036854775807)(ih:Ew L S ar br cr dr x r)
  (ids:List Int) (s:SeN) (ir:Option Addr) (er:Nat) (w:World) (hl:ids.length+(r+1)=S.length) (hsm:xc L ids) (hmany:s.many+13 ^ (r+1)≤100000000) (hc6:s.count≤6) (he:ir=none→er=0) (hI:ml w x ir ids) (hst:kV w x L S ar br cr dr s) (hp:¬aQ ids+(r+1)<s.count) :
  Calls Tryz.prog 177 #[.pointer (some ⟨x,0,none⟩),.slice ir ids.length er,J Z (aQ ids:Int)] w fun e w'=>(∃v,e=.returned v)∧kV w' x L S ar br cr dr (eR (dB L S) (L.map (·.1)) (r+1) ids s)∧w.grownBy w' (some x):=by
 have hn12:L.length≤12:=(eu hk).1;have hm6:S.length≤6:=(bK hsp).1;have hAl:(L.map (·.1)).length=L.length:=List.length_map _;have HF:=yz (Ac (F:=dB L S) (A:=L.map (·.1)) hp);have HIH:=yz ih;have HE:=yz he;have HSM:=yz hsm;have HS:=yz hst;have HI0:=yz hI
 have cF:Hid (∀(id:Int) (W:World),aN (atV L L.length id).1 (atV L L.length id).2.1 (atV L L.length id).2.2=true→aH W ar L L.length→bi W br S S.length→ij W ir ids ids.length→Calls Tryz.prog 198 #[.slice ar L.length cr,.slice br (ids.length+1) dr,.slice ir ids.length er,J Z id] W fun e w'=>e=.returned (.bool (dB L S ids id))∧Below W.heap.size W w'):=
  yz (fun id W h1 h2 h3 h4=>ym L S ids ids.length id ar br ir cr dr er W (by omega) hn12 h2 (h3.less (by omega)) h4 (fun i hi=>lq ((bK hsp).2 i (by omega))) h1 (fun i hi h0=>hsm i hi h0))
 have HMB:Hid (∀i,i≤L.length→(fQ (dB L S) (L.map (·.1)) r ids s i).many+13 ^ r≤100000000):=yz (fun i hi=>by
  have h1:=rX (dB L S) (L.map (·.1)) (by omega) r ids s i (by omega);have h2:i*13 ^ r≤12*13 ^ r:=Nat.mul_le_mul_right _ (by omega);rw[Nat.pow_succ]at hmany
  omega)
 have HCB:Hid (∀i,i≤L.length→(fQ (dB L S) (L.map (·.1)) r ids s i).count≤6):=yz (fun i hi=>rZ (dB L S) (L.map (·.1)) r ids s hc6 (by omega) i (by omega));have hc:=lK ids;have hkm:ids.length+1≤S.length:=by omega
 have hk6:ids.length≤6:=by omega
 have hq:¬(aQ ids+S.length-ids.length<s.count):=by omega
 obtain⟨⟨v,h1,h2⟩,hf,hs,hd,a1,a2⟩:=hst;obtain⟨c0,c1,c2,c3,c4⟩:=h1;have r1:=cell_regrown c1;have r3:=cell_regrown c3;clear h2 hf hs hd a1 a2 c0 c1 c2 c3 c4 hI ih he hsm hmany hp;have hq':¬(aQ ids:Int)+(S.length:Int)-(ids.length:Int)<(s.count:Int):=by omega
 have hne:¬(ids.length:Int)=(S.length:Int):=by omega
 have e31:((ids.length:Int)==(S.length:Int))=false:=by rw[beq_eq_false_iff_ne];exact hne
 go_enter Tryz.func177,Tryz.ntmps177;go_wp2_with fail;refine bQ ?_;repeat (go_big_quiet_step (fail))
 refine bW fun dq osq=>?_;have hx:=below_regrown w dq osq;generalize grow (redrawn w dq) osq=w1 at hx ⊢;have S1:=an HS hx;have I1:=yz ((yx HI0).grown (dl (x:=x) hx));have G1:=yz (dl (x:=x) hx);clear hx r1 r3 HS;obtain⟨⟨v,h1,h2⟩,hf,hs,hd,a1,a2⟩:=yx S1;obtain⟨c0,c1,c2,c3,c4⟩:=h1;clear h2 hf hs hd a1 a2;go_wp2_with fail;go_loopw [7] (fun i wr=>∃k:Nat,k≤L.length∧i=J Z k∧Hid (kV wr x L S ar br cr dr (fQ (dB L S) (L.map (·.1)) r ids s k))∧Hid (w.grownBy wr (some x))) (fun i _=>L.length-(intOf i).toNat)
 case atStart=>exact⟨0,Nat.zero_le _,rfl,yz (by rw[rY];exact yx S1),G1⟩
 case round=>
  clear c0 c1 c2 c3 c4 S1 G1 I1;obtain⟨k,hkl,rfl,HSt,HG⟩:=hrel;have HI:=yz ((yx HI0).grown (yx HG));obtain⟨⟨v,h1,h2⟩,hf,hs,hd,a1,a2⟩:=yx HSt;obtain⟨c0,c1,c2,c3,c4⟩:=h1;by_cases hkn:k<L.length
  ·obtain⟨⟨s1,s2,s3,s4⟩,hst⟩:∃q,stA L k=q:=⟨_,rfl⟩
   have hsm1:=td hk hkn;have HMA:Hid ((L.map (·.1)).getD k 0=s1):=yz (by rw[Fl hkn,hst]);rw[hst]at hsm1;have HST:=yz hst;have hkn2:(k:Int)<(L.length:Int):=by omega
   rcases hs with hs | ⟨b,o,rfl,hb,hcs⟩
   ·omega
   have d0:=(hcs k hkn).1;rw[hst]at d0;have HS2:Hid (aH wr (some ⟨b,o,none⟩) L L.length):=yz (.inr ⟨b,o,rfl,hb,hcs⟩);have HD2:=yz hd;have cFi:=yz (fun (W:World) (hB:Below wr.heap.size wr W)=>yx cF s1 W hsm1.1 ((yx HS2).kept hB) ((yx HD2).kept hB) ((yx HI).nums.kept hB));have HS1:=yz hsm1;clear hcs hst h2 hf hd a1 a2 hsm1;go_wp2_with fail;have q0:=cell_regrown c0;have q1:=cell_regrown c1;have hkd:(ids.length:Int)+1≤(dr:Int):=by omega
   cases hfit:dB L S ids s1
   ·rw[hfit]at cFi;refine bQ ?_;repeat (go_big_quiet_step (first | (with_reducible exact Calls.regrown_of (yx cFi _ (below_regrown _ _ _)))))
    refine wpQuiet_nil ?_;intro _ hw';obtain⟨⟨dq2,osq2⟩,hw''⟩:=hw';subst hw'';have hx:=below_regrown wr dq2 osq2;generalize grow (redrawn wr dq2) osq2=W2 at hx ⊢;have HR:Hid (fQ (dB L S) (L.map (·.1)) r ids s (k+1)=fQ (dB L S) (L.map (·.1)) r ids s k):=yz (by rw[ky _ _ _ _ _ (by omega),yx HMA,hfit];rfl);have S5:Hid (kV W2 x L S (some ⟨b,o,none⟩) br cr dr (fQ (dB L S) (L.map (·.1)) r ids s (k+1))):=yz (by rw[yx HR];exact(yx HSt).kept hx);have G5:=yz (jh (yx HG) (dl (x:=x) hx));clear hx c0 c1 c2 c3 c4 d0 q0 q1 HSt HG HI cFi;go_wp2_with fail;go_roundw
    case rel=>first | exact⟨k+1,by omega,by go_num,S5,G5⟩ | exact⟨k+1,by omega,by go_num,S5⟩
    case measure=>simp[intOf];omega
   ·rw[hfit]at cFi;refine bQ ?_;repeat (go_big_quiet_step (first | (with_reducible exact Calls.regrown_of (yx cFi _ (below_regrown _ _ _)))))
    refine wpQuiet_nil ?_;intro _ hw';obtain⟨⟨dq2,osq2⟩,hw''⟩:=hw';subst hw'';have hx:=below_regrown wr dq2 osq2;generalize grow (redrawn wr dq2) osq2=W2 at hx ⊢;have HR:Hid (fQ (dB L S) (L.map (·.1)) r ids s (k+1)=eR (dB L S) (L.map (·.1)) r (ids ++ [s1]) (fQ (dB L S) (L.map (·.1)) r ids s k)):=yz (by rw[ky _ _ _ _ _ (by omega),yx HMA,hfit];rfl);replace HSt:=an HSt hx;replace HG:=yz (jh (yx HG) (dl (x:=x) hx));replace HI:=yz ((yx HI).grown (dl (x:=x) hx));clear hx c0 c1 c2 c3 c4 d0 q0 q1 cFi HS2 HD2;have hlx:x<W2.heap.size:=by obtain⟨⟨_,hh,_⟩,_⟩:=yx HSt;exact hh.lt
    have HN:=yz (jP W2 W2.heap.size (Nat.le_refl _));have IA:=yz ((yx HI).grown (dl (x:=x) (ak W2 (.cells #[] 2))));go_wp2_with (at_builtin;refine gH _ rfl _ _ rfl W2.heap.size W2.heap.size rfl (yx HN) x ir er ids rfl (yx HE) (yx IA) hk6 ?d1 ?_);try case d1=>simp
    intro v1 V1 ho1 hg1;obtain⟨av,cv,rfl⟩:=ie ho1;have HB1:Hid (Below W2.heap.size W2 V1):=yz ((ak W2 (.cells #[] 2)).trans ⟨hg1.os,hg1.tape,hg1.output,hg1.size,fun k hk'=>hg1.block k (by simp;omega) (fun e=>by have:=Option.some.inj e;omega)⟩);have O4:=yz (Ia ho1 (ak V1 (.cells #[J Z s1] 2)));have HC1:Hid ((V1.alloc (.cells #[J Z s1] 2)).cell? ⟨V1.heap.size,0,none⟩=some (J Z s1)):=yz (by simp);clear ho1 hg1 IA HN;go_wp2_with (at_builtin;refine lE _ rfl _ _ rfl W2.heap.size (.slice av ids.length cv) ids rfl (yx O4) V1.heap.size s1 rfl (yx HC1) hk6 ?d2 ?_);try case d2=>have:=(yx HB1).size;simp;omega
    intro v2 V2 ho2 hg2;obtain⟨aw,cw,rfl⟩:=ie ho2;have hrow:∀g,Value.ownBlock (.slice av ids.length cv)=some g→W2.heap.size≤g:=fun g e=>FM (yx O4) g e;have hB2:Below W2.heap.size W2 V2:=(aj (yx HB1) (ak V1 (.cells #[J Z s1] 2))).trans ⟨hg2.os,hg2.tape,hg2.output,by have:=(yx HB1).size;have:=hg2.size;simp at this ⊢;omega,fun k hk'=>hg2.block k (by have:=(yx HB1).size;simp;omega) (fun e=>by have:=hrow k e.symm;omega)⟩;have S5:=an HSt hB2;have G5:=yz (jh (yx HG) (dl (x:=x) hB2));have I5:=yz (BO (ids:=ids ++ [s1]) (by rw[List.length_append,List.length_singleton];exact ho2) hlx);have E5:=yz (yG ho2);have M5:=yz (sO (yx HSM) (fun _=>(yx HS1).1));have C5:Hid ((aQ (ids ++ [s1]):Int)=(aQ ids:Int)+1):=yz (by rw[jF];rw[if_pos (yx HS1).2];omega);clear ho2 hg2 hrow hB2 HB1 O4 HC1 HSt HI HG hlx;have cI:=yz (fun (h1:_) (h2:_)=>yx HIH (ids ++ [s1]) (fQ (dB L S) (L.map (·.1)) r ids s k) aw cw V2 (by rw[List.length_append,List.length_singleton];omega) (yx M5) h1 h2 (yx E5) (yx I5) (yx S5));rw[yx C5,List.length_append,List.length_singleton]at cI;go_wp2_with fail;refine(yx cI (yx HMB k (by omega)) (yx HCB k (by omega))).mono ?_;rintro e W6 ⟨⟨ve,rfl⟩,hS6,hG6⟩;have S6:Hid (kV W6 x L S (some ⟨b,o,none⟩) br cr dr (fQ (dB L S) (L.map (·.1)) r ids s (k+1))):=yz (by rw[yx HR];exact hS6);have G6:=yz (jh (yx G5) hG6);clear hS6 hG6 S5 G5 I5 E5 M5 C5 cI;go_wp2_with fail;go_roundw
    case rel=>first | exact⟨k+1,by omega,by go_num,S6,G6⟩ | exact⟨k+1,by omega,by go_num,S6⟩ | exact⟨J Z ((k:Int)+1),_,_,_,_,_,_,_,_,_,_,_,_,_,_,_,_,_,_,_,_,_,_,_,_,_,_,_,_,_,_,_,_,_,_,_,_,_,_,_,_,_,_,⟨k+1,by omega,by go_num,S6,G6⟩,rfl⟩
    case measure=>simp[intOf];omega
  ·obtain rfl:k=L.length:=by omega
   clear h2 hf hs hd a1 a2;have hlx:x<wr.heap.size:=by obtain⟨⟨_,hh,_⟩,_⟩:=yx HSt;exact hh.lt
   have HN:=yz (jP wr wr.heap.size (Nat.le_refl _));have IA:=yz ((yx HI).grown (dl (x:=x) (ak wr (.cells #[] 2))));go_wp2_with (at_builtin;(refine gH _ rfl _ _ rfl wr.heap.size wr.heap.size rfl (yx HN) x ir er ids rfl (yx HE) (yx IA) hk6 ?d3 ?_));try case d3=>simp
   intro v1 V1 ho1 hg1;obtain⟨av,cv,rfl⟩:=ie ho1;have HB1:Hid (Below wr.heap.size wr V1):=yz ((ak wr (.cells #[] 2)).trans ⟨hg1.os,hg1.tape,hg1.output,hg1.size,fun k hk'=>hg1.block k (by simp;omega) (fun e=>by have:=Option.some.inj e;omega)⟩);have O4:=yz (Ia ho1 (ak V1 (.cells #[J Z 0] 2)));have HC1:Hid ((V1.alloc (.cells #[J Z 0] 2)).cell? ⟨V1.heap.size,0,none⟩=some (J Z 0)):=yz (by simp);clear ho1 hg1 IA HN;go_wp2_with (at_builtin;refine lE _ rfl _ _ rfl wr.heap.size (.slice av ids.length cv) ids rfl (yx O4) V1.heap.size 0 rfl (yx HC1) hk6 ?d4 ?_);try case d4=>have:=(yx HB1).size;simp;omega
   intro v2 V2 ho2 hg2;obtain⟨aw,cw,rfl⟩:=ie ho2;have hrow:∀g,Value.ownBlock (.slice av ids.length cv)=some g→wr.heap.size≤g:=fun g e=>FM (yx O4) g e;have hB2:Below wr.heap.size wr V2:=(aj (yx HB1) (ak V1 (.cells #[J Z 0] 2))).trans ⟨hg2.os,hg2.tape,hg2.output,by have:=(yx HB1).size;have:=hg2.size;simp at this ⊢;omega,fun k hk'=>hg2.block k (by have:=(yx HB1).size;simp;omega) (fun e=>by have:=hrow k e.symm;omega)⟩;have S5:=an HSt hB2;have G5:=yz (jh (yx HG) (dl (x:=x) hB2));have I5:=yz (BO (ids:=ids ++ [0]) (by rw[List.length_append,List.length_singleton];exact ho2) hlx);have E5:=yz (yG ho2);have M5:=yz (sO (yx HSM) (fun h=>absurd rfl h));have C5:Hid ((aQ (ids ++ [0]):Int)=(aQ ids:Int)):=yz (by rw[jF];simp);clear ho2 hg2 hrow hB2 HB1 O4 HC1 HSt HI HG hlx;have cI:=yz (fun (h1:_) (h2:_)=>yx HIH (ids ++ [0]) (fQ (dB L S) (L.map (·.1)) r ids s L.length) aw cw V2 (by rw[List.length_append,List.length_singleton];omega) (yx M5) h1 h2 (yx E5) (yx I5) (yx S5));rw[yx C5,List.length_append,List.length_singleton]at cI;go_wp2_with fail;refine(yx cI (yx HMB _ (Nat.le_refl _)) (yx HCB _ (Nat.le_refl _))).mono ?_;rintro e W6 ⟨⟨ve,rfl⟩,hS6,hG6⟩;have S6:=yz hS6;have G6:=yz (jh (yx G5) hG6);clear hS6 hG6 S5 G5 I5 E5 M5 C5 cI;go_wp2_with fail;go_end0
   refine⟨⟨_,rfl⟩,?_,yx G6⟩;rw[yx HF,hAl];exact yx S6
end
section
open Go.Value renaming int → J
open Go.IntKind renaming i64 → Z
open Go.RowKit Go.Sort
theorem xZ(L:List St)(S:List D3)(ar br:Option Addr)(cr dr x:Nat)(hk:bk L=true)(hsp:aL S=true)(hdr:S.length≤dr)(hd9:dr≤9223372036854775807):∀r,Ew L S ar br cr dr x r
 | 0=>fun ids s ir er w hl hsm hm hc he hI hst=>by
  by_cases hp:aQ ids+0<s.count
  ·exact rE L S ar br cr dr x 0 (bK hsp).1 ids s ir er w hl hc hst hp
  ·exact CS L S ar br cr dr x (bK hsp).1 ids s ir er w hl (by simpa using hm) hc he hI hst hp
 | r+1=>fun ids s ir er w hl hsm hm hc he hI hst=>by
  by_cases hp:aQ ids+(r+1)<s.count
  ·exact rE L S ar br cr dr x (r+1) (bK hsp).1 ids s ir er w hl hc hst hp
  ·exact CU L S ar br cr dr x r hk hsp hdr hd9 (xZ L S ar br cr dr x hk hsp hdr hd9 r) ids s ir er w hl hsm hm hc he hI hst hp
def idR(L:List St)(S:List D3):SeN:=eR (dB L S) (L.map (·.1)) S.length [] ⟨[],3,0⟩
def cx(L:List St)(S:List D3):List Int:=if (idR L S).many=1 then (idR L S).best else []
def fi(L:List St)(S:List D3):Int:=if (idR L S).many=1 then ((idR L S).count:Int) else 0
def bU(L:List St)(S:List D3):Int:=if (idR L S).many=0 then 6 else if 1<(idR L S).many then 11 else 0
def IX(w':World)(B:Nat)(ids:List Int)(cnt code:Int)(e:Ending):Prop:=∃v,e=.returned (.agg #[v,J Z cnt,J Z code])∧w'.ownsRow B 2 1 v ids.length (gR ids)
def IdO(w:World)(b:Nat)(v:Value)(c k:Int):Prop:=w.cell? ⟨b,0,none⟩=some v∧w.cell? ⟨b,1,none⟩=some (J Z c)∧w.cell? ⟨b,2,none⟩=some (J Z k)
variable {c k:Int} {b:Nat} {v:Value} {w w':World}
theorem IdO.grown{row:Option Nat}(h:IdO w b v c k)(hg:w.grownBy w' row)(hne:some b≠row):IdO w' b v c k:=⟨eK h.1 hg hne,eK h.2.1 hg hne,eK h.2.2 hg hne⟩
theorem IdO.kept(h:IdO w b v c k)(hB:Below w.heap.size w w'):IdO w' b v c k:=⟨bA h.1 hB,bA h.2.1 hB,bA h.2.2 hB⟩
theorem ji{v0:Value}{c0 k0:Int}(h:IdO w b v0 c0 k0)(v:Value)(c k:Int):IdO (((w.setCell ⟨b,0,none⟩ v).setCell ⟨b,1,none⟩ (J Z c)).setCell ⟨b,2,none⟩ (J Z k)) b v c k:=by
 obtain⟨h0,h1,h2⟩:=h;refine⟨?_,?_,?_⟩<;>simp[go_sem,h0,h1,h2]
theorem wU(T:Array Value)(X:World)(b:Nat)(v:Value)(c k:Int)(hT:T.getD 4 undef=.pointer (some ⟨b,0,none⟩))(h:IdO X b v c k):(results Tryz.f143 T).run Tryz.prog X=.ok (.agg #[v,J Z c,J Z k]) X:=by
 obtain⟨h0,h1,h2⟩:=h;simp only[Array.getD_eq_getD_getElem?]at hT;simp[results,Tryz.results143,go_sem,hT,h0,h1,h2]
theorem wS{B n:Nat}{xs:List Value}(h:w.ownsRow B 2 1 v n xs)(hb:b<B)(o:Nat)(y:Value):(w.setCell ⟨b,o,none⟩ y).ownsRow B 2 1 v n xs:=by
 obtain⟨h1,h2⟩:=h;refine⟨h1,?_⟩;rcases h2 with h2 | ⟨g,c',cur,e,hg,hh,r⟩
 ·exact .inl h2
 ·exact .inr ⟨g,c',cur,e,hg,by rw[Below.heap_setCell w ⟨b,o,none⟩ y g (by show g≠b;omega)];exact hh,r⟩
theorem qn(L:List St)(S:List D3)(ar br:Option Addr)(cr dr:Nat)(w:World)(hk:bk L=true)(hsp:aL S=true)(hdr:S.length≤dr)(hd9:dr≤9223372036854775807)(hS:aH w ar L L.length)(hD:bi w br S S.length)(hA:∀y,ar=some y→y.block<w.heap.size)(hB:∀y,br=some y→y.block<w.heap.size):
  Calls Tryz.prog 143 #[.slice ar L.length cr,.slice br S.length dr] w fun e w'=>IX w' w.heap.size (cx L S) (fi L S) (bU L S) e∧Below w.heap.size w w':=by
 have B0:=aF w (.cells #[.slice none 0 0,J Z 0,J Z 0] 196) (.cells #[.slice ar L.length cr,.slice br S.length dr,.slice none 0 0,J Z 3,J Z 0] 237);have R0:IdO ((w.alloc (.cells #[.slice none 0 0,J Z 0,J Z 0] 196)).alloc (.cells #[.slice ar L.length cr,.slice br S.length dr,.slice none 0 0,J Z 3,J Z 0] 237)) w.heap.size (.slice none 0 0) 0 0:=IdO.kept (w:=w.alloc (.cells #[.slice none 0 0,J Z 0,J Z 0] 196)) (by refine⟨?_,?_,?_⟩<;>simp) (ak _ _);have F0:iK ((w.alloc (.cells #[.slice none 0 0,J Z 0,J Z 0] 196)).alloc (.cells #[.slice ar L.length cr,.slice br S.length dr,.slice none 0 0,J Z 3,J Z 0] 237)) w.heap.size:=iK.kept (w:=w.alloc (.cells #[.slice none 0 0,J Z 0,J Z 0] 196)) (fun i=>by simp) (by simp) (ak _ _)
 have St0:kV ((w.alloc (.cells #[.slice none 0 0,J Z 0,J Z 0] 196)).alloc (.cells #[.slice ar L.length cr,.slice br S.length dr,.slice none 0 0,J Z 3,J Z 0] 237)) (w.heap.size+1) L S ar br cr dr ⟨[],3,0⟩:=by
  refine⟨⟨.slice none 0 0,?_,World.ownsRow_nil _ _ _ _⟩,?_,hS.kept B0,hD.kept B0,fun y e=>by have:=hA y e;omega,fun y e=>by have:=hB y e;omega⟩
  ·refine⟨?_,?_,?_,?_,?_⟩<;>simp
  ·intro i;simp
 have cM:=yz (xZ L S ar br cr dr (w.heap.size+1) hk hsp hdr hd9 S.length [] ⟨[],3,0⟩ none 0 _ (by simp) (fun i hi=>absurd hi (by simp)) (by have h6:=(bK hsp).1;have:13 ^ S.length≤13 ^ 6:=Nat.pow_le_pow_right (by decide) h6;simp only;omega) (by decide) (fun _=>rfl) (.inl ⟨rfl,rfl⟩) St0);have HB:=yz B0;have HR:=yz R0;have HF:=yz F0;have hsz:((w.alloc (.cells #[.slice none 0 0,J Z 0,J Z 0] 196)).alloc (.cells #[.slice ar L.length cr,.slice br S.length dr,.slice none 0 0,J Z 3,J Z 0] 237)).heap.size=w.heap.size+2:=by simp
 clear B0 R0 F0 St0 hS hD hA hB;go_enter Tryz.func143,Tryz.ntmps143;go_wp2_with fail;generalize hW:(w.alloc (.cells #[.slice none 0 0,J Z 0,J Z 0] 196)).alloc (.cells #[.slice ar L.length cr,.slice br S.length dr,.slice none 0 0,J Z 3,J Z 0] 237)=W at *;clear hW;refine(yx cM).mono ?_;rintro e w1 ⟨⟨ve,rfl⟩,hS1,hG1⟩;have HI:Hid (eR (dB L S) (L.map (·.1)) S.length [] ⟨[],3,0⟩=idR L S):=yz rfl;rw[yx HI]at hS1;have B1:Hid (Below w.heap.size w w1):=yz ((yx HB).trans ⟨hG1.os,hG1.tape,hG1.output,by have:=hG1.size;omega,fun k hk'=>hG1.block k (by omega) (fun e=>by have:=Option.some.inj e;omega)⟩);have R1:=yz ((yx HR).grown hG1 (fun e=>by have:=Option.some.inj e;omega));have F1:=yz ((yx HF).grown (by omega) hG1 (fun e=>by have:=Option.some.inj e;omega));obtain⟨⟨vb,h1,h2⟩,hf,hs,hd,a1,a2⟩:=hS1;have O1:=yz h2;obtain⟨av,cv,rfl⟩:=ie h2;have H1:=yz h1;clear hf hs hd a1 a2 h2 hG1 HB HR HF cM;have hO1:(idR L S).many=0→Hid (cx L S=[]∧fi L S=0∧bU L S=6):=fun h=>yz (by unfold cx fi bU;rw[if_neg (by omega),if_neg (by omega),if_pos h];exact⟨rfl,rfl,rfl⟩);have hO2:1<(idR L S).many→Hid (cx L S=[]∧fi L S=0∧bU L S=11):=fun h=>yz (by unfold cx fi bU;rw[if_neg (by omega),if_neg (by omega),if_neg (by omega),if_pos h];exact⟨rfl,rfl,rfl⟩);have hO3:(idR L S).many=1→Hid (cx L S=(idR L S).best∧fi L S=((idR L S).count:Int)∧bU L S=0):=fun h=>yz (by unfold cx fi bU;rw[if_pos h,if_pos h,if_neg (by omega),if_neg (by omega)];exact⟨rfl,rfl,rfl⟩);generalize idR L S=s at *;obtain⟨bst,ct,mn⟩:=s;dsimp only at h1 O1 hO1 hO2 hO3;obtain⟨c0,c1,c2,c3,c4⟩:=h1;obtain⟨r0,r1,r2⟩:=yx R1;have f0:=yx F1 0;have f1:=yx F1 1;have f2:=yx F1 2;by_cases m0:mn=0
 ·have HO:=hO1 m0;subst m0;clear hO1 hO2 hO3;go_wp2_with fail;clear c0 c1 c2 c3 c4 r0 r1 r2 f0 f1 f2;refine bodyPost_ret (v:=.agg #[.slice none 0 0,J Z 0,J Z 6]) (wU _ _ w.heap.size _ 0 6 rfl (ji (yx R1) _ _ _)) rfl ⟨?_,((((yx B1).setCell (Nat.le_refl _) _).setCell (Nat.le_refl _) _).setCell (Nat.le_refl _) _)⟩;rw[(yx HO).1,(yx HO).2.1,(yx HO).2.2];exact⟨_,rfl,World.ownsRow_nil _ _ _ _⟩
 by_cases m1:1<mn
 ·have HO:=hO2 m1;have m0':¬(mn:Int)=0:=by omega
  have m1':(1:Int)<(mn:Int):=by omega
  clear hO1 hO2 hO3;go_wp2_with fail;clear c0 c1 c2 c3 c4 r0 r1 r2 f0 f1 f2;refine bodyPost_ret (v:=.agg #[.slice none 0 0,J Z 0,J Z 11]) (wU _ _ w.heap.size _ 0 11 rfl (ji (yx R1) _ _ _)) rfl ⟨?_,((((yx B1).setCell (Nat.le_refl _) _).setCell (Nat.le_refl _) _).setCell (Nat.le_refl _) _)⟩;rw[(yx HO).1,(yx HO).2.1,(yx HO).2.2];exact⟨_,rfl,World.ownsRow_nil _ _ _ _⟩
 ·obtain rfl:mn=1:=by omega
  have HO:=hO3 rfl;clear hO1 hO2 hO3 m0 m1;go_wp2_with fail;refine wp_region_held_drew (S:=(fun w'=>w'.cell? ⟨w.heap.size+1,2,none⟩=some (.slice av bst.length cv)∧w'.cell? ⟨w.heap.size+1,3,none⟩=some (J Z (ct:Int)))) (by kernel_rfl) ?_ (fun hHeld=>?_)
  ·exact⟨c2,c3⟩
  refine ab 0 rfl ?_;try simp only[Act.put,ag,ah,ai]
  refine ab 1 rfl ?_;try simp only[Act.put,ag,ah,ai]
  refine ab 2 rfl ?_;try simp only[Act.put,ag,ah,ai]
  refine ab 3 rfl ?_;try simp only[Act.put,ag,ah,ai]
  refine ab 4 rfl ?_;try simp only[Act.put,ag,ah,ai]
  refine ab 5 rfl ?_;try simp only[Act.put,ag,ah,ai]
  refine ab 6 rfl ?_;try simp only[Act.put,ag,ah,ai]
  refine ab 7 rfl ?_;try simp only[Act.put,ag,ah,ai]
  refine ab 8 rfl ?_;try simp only[Act.put,ag,ah,ai]
  have R1d:IdO w1.drew w.heap.size (.slice none 0 0) 0 0:=yx R1;have F1d:iK w1.drew w.heap.size:=yx F1;have B1d:Below w.heap.size w w1.drew:=(yx B1).drew;have O1d:=Ia (yx O1) (Below.refl w1.heap.size w1).drew;have d2:w1.drew.cell? ⟨w.heap.size+1,2,none⟩=some (.slice av bst.length cv):=c2;have d3:w1.drew.cell? ⟨w.heap.size+1,3,none⟩=some (J Z (ct:Int)):=c3;generalize hV:w1.drew=V at *;clear hV c0 c1 c2 c3 c4 r0 r1 r2 f0 f1 f2;obtain⟨r0,r1,r2⟩:=R1d;have f0:=F1d 0;have f1:=F1d 1;have f2:=F1d 2;refine ae 9 rfl fun K hK=>?_;go_simp;refine hK.out _ _ ?_ (fun hHeld1=>?_)
  ·refine⟨?_,?_⟩
   ·rw[World.cell?_setCell_far _ _ _ _ (by show w.heap.size≠w.heap.size+1;omega),World.cell?_setCell_far _ _ _ _ (by show w.heap.size≠w.heap.size+1;omega),World.cell?_setCell_far _ _ _ _ (by show w.heap.size≠w.heap.size+1;omega)];exact d2
   ·rw[World.cell?_setCell_far _ _ _ _ (by show w.heap.size≠w.heap.size+1;omega),World.cell?_setCell_far _ _ _ _ (by show w.heap.size≠w.heap.size+1;omega),World.cell?_setCell_far _ _ _ _ (by show w.heap.size≠w.heap.size+1;omega)];exact d3
  clear hK K hHeld;refine wpAnyH_done (by kernel_rfl) ?_ _;clear hHeld1;go_wp2_with fail;refine bodyPost_ret (v:=.agg #[.slice av bst.length cv,J Z (ct:Int),J Z 0]) (wU _ _ w.heap.size _ (ct:Int) 0 rfl (ji ⟨r0,r1,r2⟩ _ _ _)) rfl ⟨?_,(((B1d.setCell (Nat.le_refl _) _).setCell (Nat.le_refl _) _).setCell (Nat.le_refl _) _)⟩;rw[(yx HO).1,(yx HO).2.1,(yx HO).2.2];exact⟨_,rfl,Fu (wS (wS (wS O1d (by omega) _ _) (by omega) _ _) (by omega) _ _) (by omega)⟩
end
section
open Go.RowKit Go.Sort
def qf(L:List St)(S:List D3):Bool:=bk L&&aL S
def dw(L:List St)(S:List D3):List Int:=if 400<L.length∨400<S.length then [] else if qf L S=true then cx L S else []
def gQ(L:List St)(S:List D3):Int:=if 400<L.length∨400<S.length then 0 else if qf L S=true then fi L S else 0
def eX(L:List St)(S:List D3):Int:=if 400<L.length∨400<S.length then 2 else if qf L S=true then bU L S else 1
theorem uI{L:List St}{S:List D3}(h:400<L.length∨400<S.length):dw L S=[]∧gQ L S=0∧eX L S=2:=by unfold dw gQ eX;rw[if_pos h,if_pos h,if_pos h];exact⟨rfl,rfl,rfl⟩
theorem rM{L:List St}{S:List D3}(h:¬(400<L.length∨400<S.length))(h1:qf L S=false):dw L S=[]∧gQ L S=0∧eX L S=1:=by unfold dw gQ eX;rw[if_neg h,if_neg h,if_neg h,h1];exact⟨rfl,rfl,rfl⟩
theorem lR{L:List St}{S:List D3}(h:¬(400<L.length∨400<S.length))(h1:qf L S=true):dw L S=cx L S∧gQ L S=fi L S∧eX L S=bU L S:=by unfold dw gQ eX;rw[if_neg h,if_neg h,if_neg h,if_pos h1,if_pos h1,if_pos h1];exact⟨rfl,rfl,rfl⟩
def stV(s:St):Value:=.agg #[.int .i64 s.1,.int .i64 s.2.1,.int .i64 s.2.2.1,.int .i64 s.2.2.2]
def pV(s:St):DataW Unit:=.agg [.lit (.int .i64 s.1),.lit (.int .i64 s.2.1),.lit (.int .i64 s.2.2.1),.lit (.int .i64 s.2.2.2)]
def sY(v:Value):Option (DataW Unit×List MemPlace):=match v with
 | .agg ⟨[.int .i64 a,.int .i64 b,.int .i64 c,.int .i64 d]⟩=>some (pV (a,b,c,d),[])
 | _=>none
theorem sZ(s:St):sY (stV s)=some (pV s,[]):=rfl
theorem vn{v:Value}{s:St}{ps:List MemPlace}(h:sY v=some (pV s,ps)):v=stV s:=by
 unfold sY at h;split at h
 ·simp only[Option.some.injEq,Prod.mk.injEq,pV,DataW.agg.injEq,List.cons.injEq,DataW.lit.injEq,Lit.int.injEq,true_and,and_true]at h;obtain⟨⟨h1,h2,h3,h4⟩,_⟩:=h;subst h1 h2 h3 h4;rfl
 ·cases h
def ts:St:=(0,0,0,0)
def eY(L:List St)(ids:List Int)(i:Nat):St:=if ids.getD i 0≠0 then (ids.getD i 0,atV L L.length (ids.getD i 0)) else ts
def mo(D:DataW Unit)(L:List St)(ids:List Int):Prop:=∀i:Nat,i<7→Maps.has D (.int .i64 (i:Int))=decide (ids.getD i 0≠0)∧D.atKey (.int .i64 (i:Int)) (pV ts)=pV (eY L ids i)
def bP(w:World)(b n:Nat)(L:List St)(ids:List Int):Prop:=∃D,w.ownsMap Tryz.prog 3 sY b n D∧mo D L ids
theorem JP(i:Nat)(h:i<7):(Lit.int .i64 (i:Int)).wf=true:=by
 rcases(by omega:i=0∨i=1∨i=2∨i=3∨i=4∨i=5∨i=6) with rfl | rfl | rfl | rfl | rfl | rfl | rfl<;>decide
theorem Hu(i:Nat)(h:i<7):keyOf Tryz.prog 3 (.int .i64 (i:Int))=some (.int .i64 (i:Int)):=Maps.keyOf_int_mk Tryz.underlying3 (JP i h)
theorem zC(w:World):(zeroValue 113).run Tryz.prog w=.ok (stV ts) w:=by kernel_rfl
variable {ids:List Int} {b:Nat} {w:World}
theorem bP.look{n:Nat}{L:List St}(h:bP w b n L ids)(i:Nat)(hi:i<7):(Instr.lookup 294 (.map (some b)) (.int .i64 (i:Int)) false).run Tryz.prog w=.ok (stV (eY L ids i)) w:=by
 obtain⟨D,hD,hM⟩:=h;obtain⟨v,ps,hr,hv⟩:=hD.lookup (Maps.int_keyed Tryz.underlying3) Tryz.underlying294 (zC w) (sZ ts) (Hu i hi);rw[(hM i hi).2]at hv;rw[vn hv]at hr;exact hr
theorem bP.lookOk{n:Nat}{L:List St}(h:bP w b n L ids)(i:Nat)(hi:i<7):(Instr.lookup 294 (.map (some b)) (.int .i64 (i:Int)) true).run Tryz.prog w=.ok (.tuple #[stV (eY L ids i),.bool (decide (ids.getD i 0≠0))]) w:=by
 obtain⟨D,hD,hM⟩:=h;obtain⟨v,ps,hr,hv⟩:=hD.look_ok (Maps.int_keyed Tryz.underlying3) Tryz.underlying294 (zC w) (sZ ts) (Hu i hi);rw[(hM i hi).2]at hv;rw[vn hv,(hM i hi).1]at hr;exact hr
theorem bP.kept{w':World}{n:Nat}{L:List St}{row:Option Nat}(h:bP w b n L ids)(hg:w.grownBy w' row)(hne:some b≠row):bP w' b n L ids:=by
 obtain⟨D,hD,hM⟩:=h;exact⟨D,hD.kept hg hne,hM⟩
end
section
open Go.RowKit Go.Deep Go.ChangeShapes
def rU : List (String × DataW Unit) := [("loop.example/g00577/impl.errNoSky", Rows.laid_loop_example_g00577_impl_errNoSky), ("loop.example/g00577/impl.errNoCommand", Rows.laid_loop_example_g00577_impl_errNoCommand)]
theorem tP{P:Program}{x:String×DataW Unit}{l:List (String×DataW Unit)}{w:World}(h:laidMet P (x :: l) w):laidMet P l w:=by
 obtain⟨ps,⟨g,t,cs,f,p,q,hg,ht,hv,hd,hr,e⟩,hn,hrows⟩:=h;subst e;exact⟨q,hr,(List.nodup_append.1 hn).2.1,fun b off hb=>hrows b off (List.mem_append_right _ hb)⟩
variable {W:World}
theorem yW {r : List (String × DataW Unit)} (h : laidMet Tryz.prog (("loop.example/g00577/impl.errNoSky", Rows.laid_loop_example_g00577_impl_errNoSky) :: r) W) : ∃ p, W.var? Tryz.prog "loop.example/g00577/impl.errNoSky" = some #[.iface 309 (.pointer (some p))] := by
 obtain⟨a,s,hv,_⟩:=laid_sentinel h nt BH Tryz.underlying129 rowE Tryz.underlying309 Tryz.underlying329 rfl rfl Tryz.underlying9 (by kernel_rfl) (by kernel_rfl);exact⟨a,hv⟩
theorem xG {r : List (String × DataW Unit)} (h : laidMet Tryz.prog (("loop.example/g00577/impl.errNoCommand", Rows.laid_loop_example_g00577_impl_errNoCommand) :: r) W) : ∃ p, W.var? Tryz.prog "loop.example/g00577/impl.errNoCommand" = some #[.iface 309 (.pointer (some p))] := by
 obtain⟨a,s,hv,_⟩:=laid_sentinel h np BA Tryz.underlying129 rowC Tryz.underlying309 Tryz.underlying329 rfl rfl Tryz.underlying9 (by kernel_rfl) (by kernel_rfl);exact⟨a,hv⟩
end
end Go.Proofs.YteoonaanoenjiaaGreatDoor
