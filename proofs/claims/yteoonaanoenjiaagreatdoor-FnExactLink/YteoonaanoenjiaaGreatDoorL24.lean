/- Several texts in one: NaB. -/
import Derived.Test.YteoonaanoenjiaaGreatDoorL22
import Derived.Test.YteoonaanoenjiaaGreatDoorL23
namespace Go.Proofs.YteoonaanoenjiaaGreatDoor
set_option linter.unusedVariables false
set_option linter.unusedSimpArgs false
set_option maxRecDepth 100000
set_option maxHeartbeats 8000000
section
open Go.Value renaming int → J
open Go.IntKind renaming i64 → Y
open Go.RowKit Go.Sort
variable {a:Addr} {c:Nat} {v:Value} {w w':World}
theorem oe{P:Program}{ops:Array Oper}{o:Oper}{a:Act}{K:Act→World→Prop}{Q:Exit→Act→World→Prop}{E:Prop}(hgd:o.guard=none)(s x:Operand)(t:TypeId)
  (ho:o.op=.call { callee:=.builtin .append,args:=#[s,x],argTypes:=#[t,t] })
  (base:Nat) (e:TypeId) (i:TypeInfo) (z:Value) (size bytes:Nat) (ht:P.underlying t=some (.slice e)) (hi:P.info? e=some i) (hz:i.zero=some z)
  (hsize:i.size=size) (hby:i.bytes=bytes) (hzs:z.cells.size=size) (hsz:0<size)
  (v:Value) (n:Nat) (xs:List Value) (hs:a.eval s=v) (hown:w.ownsRow base e size v n xs)
  (ad:Addr) (m c:Nat) (news:List Value) (hx:a.eval x=.slice (some ad) m c) (hl:news.length=m*size) (hnews:∀j u,news[j]? = some u→w.cell? (ad.add j)=some u) (h1:∀u∈news,u.oneCell'=true)
  (h63:n+m≤maxLen) (hbytes:(n+m)*bytes≤140737488355328) (hbase:base≤w.heap.size)
  (h:∀v' w',w'.ownsRow base e size v' (n+m) (xs ++ news)→w.grownBy w' v.ownBlock→K (a.put o.dst v') w'):if Region.wanted o (yielded ops a.tmps)=true then Oper.wp P o a w K Q else E:=by
 have hw:Region.wanted o (yielded ops a.tmps)=true:=by simp[Region.wanted,hgd]
 rw[if_pos hw];exact wp_append_own w s x t ho base e i z size bytes ht hi hz hsize hby hzs hsz v n xs hs hown ad m c news hx hl hnews h1 h63 hbytes hbase fun v' w' h2 h3 _=>h v' w' h2 h3
theorem fg(h:w.cell? a=some v)(hB:Below w.heap.size w w'):w'.cell? a=some v:=(hB.cell (World.block_lt_of_cell? w a h)).trans h
theorem cz{row:Option Nat}(h:w.cell? a=some v)(hg:w.grownBy w' row)(hne:some a.block≠row):w'.cell? a=some v:=(World.cell?_of_block (hg.block a.block (World.block_lt_of_cell? w a h) hne)).trans h
theorem rQ:(Tryz.prog.info? 299).map (fun i=>(i.zero,i.size,i.bytes))=some (some (.agg #[J Y 0,J Y 0,J Y 0,J Y 0,J Y 0,J Y 0,J Y 0]),7,56):=by kernel_rfl
def dp(S:List Sg):List Value:=S.flatMap sgL
theorem rt(A B:List Sg):dp (A ++ B)=dp A ++ dp B:=by unfold dp;rw[List.flatMap_append]
theorem pA{S:List Sg}(h:v∈dp S):v.oneCell'=true:=by
 unfold dp at h;rw[List.mem_flatMap]at h;obtain⟨p,_,hp⟩:=h;simp[sgL]at hp;rcases hp with rfl | rfl | rfl | rfl | rfl | rfl | rfl<;>rfl
theorem CN:∀(S:List Sg) (k:Nat) (b:Sg),S[k]? = some b→∀j u,(sgL b)[j]? = some u→(dp S)[k*7+j]? = some u:=by
 intro S
 induction S with
 | nil=>intro k b h;simp at h
 | cons x S ih=>
  intro k b h j u hu;have e:dp (x :: S)=sgL x ++ dp S:=by unfold dp;simp
  have hj:j<7:=(List.getElem?_eq_some_iff.1 hu).1;rw[e];cases k with
  | zero=>
   simp at h;subst h;rw[List.getElem?_append_left (by show _<7;omega)];simpa using hu
  | succ k=>
   rw[List.getElem?_append_right (by show 7≤_;omega)];rw[show (k+1)*7+j-(sgL x).length=k*7+j by show _-7=_;omega];exact ih k b (by simpa using h) j u hu
theorem na{B:Nat}{a:Option Addr}{A:List Sg}(h:w.ownsRow B 299 7 (.slice a A.length c) A.length (dp A)):fG w a A A.length:=by
 rcases h.2 with ⟨h1,h0⟩ | ⟨g,cap,cur,hv,hb,hg,hnc,hcm,hcs,htake⟩
 ·exact .inl h0
 ·injection hv with e1 e2 e3;refine .inr ⟨g,0,e1,(Array.getElem?_eq_some_iff.1 hg).1,fun k hk=>?_⟩;have hk':A[k]? = some (sgA A k):=by unfold sgA;rw[List.getD_eq_getElem?_getD,List.getElem?_eq_getElem hk];rfl
  have cl:∀j u,(sgL (sgA A k))[j]? = some u→w.cell? ⟨g,0+k*7+j,none⟩=some u:=by
   intro j u hu;have hj:j<7:=(List.getElem?_eq_some_iff.1 hu).1;have e:=CN A k _ hk' j u hu;rw[cell_of_row w g _ cur _ _ hg];rw[←htake,List.getElem?_take,if_pos (by omega)]at e;rw[Nat.zero_add];simpa using e
  exact⟨cl 0 _ rfl,cl 1 _ rfl,cl 2 _ rfl,cl 3 _ rfl,cl 4 _ rfl,cl 5 _ rfl,cl 6 _ rfl⟩
theorem BW{B:Nat}{a:Option Addr}{n m:Nat}{t:TypeId}{xs:List Value}(h:w.ownsRow B t m (.slice a n c) n xs)(hm:0<m):n≤c:=by
 rcases h.2 with ⟨h1,h0⟩ | ⟨g,cap,cur,hv,hb,hg,hnc,hcm,hcs,htake⟩
 ·injection h1 with _ e2 e3;omega
 ·injection hv with e1 e2 e3;omega
theorem nX(L:List St)(S:List D3)(ids:List Int)(n:Nat)(ar br ir:Option Addr)(cr dr er:Nat)(p:Addr)(w:World)(hk:bk L=true)(hn:L.length≤1048576)(hcap:L.length≤cr)(hc9:cr≤9223372036854775807)(hm:S.length≤6)(hl:n=S.length)(hS:aH w ar L L.length)(hD:bi w br S S.length)(hI:ij w ir ids n)(hE:bm p w):
  Calls Tryz.prog 204 #[.slice ar L.length cr,.slice br S.length dr,.slice ir n er] w fun e w'=>(∃v,e=.returned v∧w'.ownsRow w.heap.size 299 7 v (au L S ids n).length (dp (au L S ids n)))∧Below w.heap.size w w':=by
 obtain⟨i0,hinf,hz0,hz1,hz2⟩:=info_parts rQ;have hm8:1000≤maxLen:=by decide +kernel
 have cA:=yz (fun (W:World) (id:Int) hW hE=>AI L id ar cr p W hn hcap hc9 hW hE);have HAT:Hid (∀id,ze L id=atV L L.length id):=yz (fun id=>by unfold ze;rw[if_pos hk]);have HS:=yz hS;have HD:=yz hD;have HE:=yz hE;have HN:=yz (gr L S ids);have HLE:=yz (iX L S ids);have HSO:Hid (∀i,bY L S ids i=(vA S i,(ids.getD i 0,atV L L.length (ids.getD i 0)))):=yz (fun i=>rfl);clear hS hD hE hk hcap hc9;generalize hme:S.length=m at *;subst hl;generalize L.length=ln at *;rcases hI with rfl | ⟨ib,io,rfl,hib,hic⟩
 ·go_enter Tryz.func204,Tryz.ntmps204;go_wp2_with fail;refine wp_loop_rounds 1 ?_;rw[rounds_succ];go_wp2_with fail;go_ret;exact⟨⟨_,rfl,World.ownsRow_nil _ _ _ _⟩,Below.refl _ _⟩
 have HIC:=yz hic;clear hic;go_enter Tryz.func204,Tryz.ntmps204;go_wp2_with fail;go_loopw [7,13] (fun v kk wr=>∃i:Nat,i≤n∧kk=J Y i∧Hid (wr.ownsRow w.heap.size 299 7 v (au L S ids i).length (dp (au L S ids i)))∧Hid (Below w.heap.size w wr)) (fun _ kk _=>n-(intOf kk).toNat)
 case atStart=>exact⟨0,by omega,rfl,yz (World.ownsRow_nil _ _ _ _),yz (Below.refl _ _)⟩
 case round=>
  obtain⟨i,hi,rfl,HO,HB⟩:=hrel;by_cases hin:i<n
  ·have hin2:(i:Int)<(n:Int):=by omega
   have ci:wr.cell? ⟨ib,io+i,none⟩=some (J Y (ids.getD i 0)):=by rw[(yx HB).cell (p:=⟨ib,io+i,none⟩) hib];exact yx HIC i hin
   have HSN:=yz (yx HN i);have HSI:=yz (yx HSO i);have hle:=yx HLE i;generalize ids.getD i 0=id at *;by_cases hid:id=0
   ·subst hid;rw[if_neg (by simp),List.append_nil]at HSN;have HO3:Hid (wr.ownsRow w.heap.size 299 7 u7 (au L S ids (i+1)).length (dp (au L S ids (i+1)))):=yz (by rw[yx HSN];exact yx HO);go_wp2_with fail;go_roundw
    case rel=>exact⟨i+1,by omega,by go_num,HO3,HB⟩
    case measure=>simp[intOf]<;>omega
   ·have hid':(id==0)=false:=by simp[hid]
    rw[if_pos hid]at HSN;rw[yx HSI]at HSN;clear HSI;have cA':=yz (fun (W:World) hW hE=>yx cA W id hW hE);rw[yx HAT id]at cA';generalize atV L ln id=q at *;obtain⟨q1,q2,q3⟩:=q;go_wp2_with fail;refine(yx cA' _ ((yx HS).kept (yx HB)) ((yx HE).kept (yx HB))).mono ?_;rintro e W1 ⟨rfl,hx⟩;unfold Bm;simp only;have HO1:=jp (yx HO) hx;have HB1:=aj (yx HB) hx;clear hx HO HB cA';have HU:Hid (∀z,u7.ownBlock=some z→w.heap.size≤z∧z<W1.heap.size):=yz (fun z e=>HO1.lt z e);have Z:=ak W1 (.cells #[J Y id,J Y q1,J Y q2,J Y q3] 113);have HO2:=yz (jp HO1 Z);have HB2:=yz (aj HB1 Z);have N2:=yz (fu W1 (id,q1,q2,q3) 113);clear Z HO1 HB1 ci;go_wp2_with fail;generalize W1.alloc (.cells #[J Y id,J Y q1,J Y q2,J Y q3] 113)=W2 at HO2 HB2 N2 ⊢;generalize W1.heap.size=tb at *;rcases yx HD with h | ⟨bb,bo,rfl,hbb,hbc⟩
    ·omega
    have hst:=(hbc i hin).kept hbb (yx HB2);clear hbc;generalize vA S i=sv at *;obtain⟨v1,v2,v3⟩:=sv;obtain⟨c0,c1,c2⟩:=hst;obtain⟨d0,d1,d2,d3⟩:=yx N2;simp only[Nat.zero_add]at d0 d1 d2 d3;simp only at c0 c1 c2;refine wp_region_held_drew (S:=(fun w'=>(w'.cell? ⟨bb,bo+i*3,none⟩=some (J Y v1)∧w'.cell? ⟨bb,bo+i*3+1,none⟩=some (J Y v2)∧w'.cell? ⟨bb,bo+i*3+2,none⟩=some (J Y v3))∧w'.cell? ⟨tb,0,none⟩=some (J Y id)∧w'.cell? ⟨tb,1,none⟩=some (J Y q1)∧w'.cell? ⟨tb,2,none⟩=some (J Y q2)∧w'.cell? ⟨tb,3,none⟩=some (J Y q3))) (by kernel_rfl) ?_ (fun hHeld=>?_)
    ·exact⟨⟨c0,c1,c2⟩,d0,d1,d2,d3⟩
    refine ab 0 rfl ?_;try simp only[Act.put,ag,ah,ai]
    refine ab 1 rfl ?_;try simp only[Act.put,ag,ah,ai]
    refine ab 2 rfl ?_;try simp only[Act.put,ag,ah,ai]
    refine ab 3 rfl ?_;try simp only[Act.put,ag,ah,ai]
    refine ab 4 rfl ?_;try simp only[Act.put,ag,ah,ai]
    refine ab 5 rfl ?_;try simp only[Act.put,ag,ah,ai]
    refine ab 6 rfl ?_;try simp only[Act.put,ag,ah,ai]
    have HOd:W2.drew.ownsRow w.heap.size 299 7 u7 (au L S ids i).length (dp (au L S ids i)):=yx HO2;have HBd:=(yx HB2).drew;have hbs:w.heap.size≤W2.drew.heap.size:=HBd.size;have hbs2:w.heap.size≤W2.heap.size:=hbs;have c0d:W2.drew.cell? ⟨bb,bo+i*3,none⟩=some (J Y v1):=c0;have c1d:W2.drew.cell? ⟨bb,bo+i*3+1,none⟩=some (J Y v2):=c1;have c2d:W2.drew.cell? ⟨bb,bo+i*3+2,none⟩=some (J Y v3):=c2;have d0d:W2.drew.cell? ⟨tb,0,none⟩=some (J Y id):=d0;have d1d:W2.drew.cell? ⟨tb,1,none⟩=some (J Y q1):=d1;have d2d:W2.drew.cell? ⟨tb,2,none⟩=some (J Y q2):=d2;have d3d:W2.drew.cell? ⟨tb,3,none⟩=some (J Y q3):=d3;clear c0 c1 c2 d0 d1 d2 d3;refine ae 7 rfl fun K hK=>?_;go_simp;have Z5:=ak W2.drew (.cells #[J Y v1,J Y v2,J Y v3,J Y id,J Y q1,J Y q2,J Y q3] 299);have hown:=jp HOd Z5;have B5:=aj HBd Z5;have c0:=fg c0d Z5;have c1:=fg c1d Z5;have c2:=fg c2d Z5;have d0:=fg d0d Z5;have d1:=fg d1d Z5;have d2:=fg d2d Z5;have d3:=fg d3d Z5;clear Z5 c0d c1d c2d d0d d1d d2d d3d HOd HBd;refine hK.out _ _ ?_ (fun hHeld3=>?_)
    ·exact⟨⟨c0,c1,c2⟩,d0,d1,d2,d3⟩
    clear hK K hHeld;refine ae 8 rfl fun K hK=>?_;refine oe rfl _ _ 278 rfl w.heap.size 299 i0 (.agg #[J Y 0,J Y 0,J Y 0,J Y 0,J Y 0,J Y 0,J Y 0]) 7 56 Tryz.underlying278 hinf hz0 hz1 hz2 rfl (by decide) _ _ _ rfl hown ⟨W2.drew.heap.size,0,none⟩ 1 1 (dp [((v1,v2,v3),(id,q1,q2,q3))]) rfl rfl ?d2 (fun u hu=>pA hu) ?d3 ?d4 ?d5 ?_
    case d2=>first | exact fun j u h=>h | exact jN _ _ _
    case d3=>omega
    case d4=>omega
    case d5=>first | omega | (simp;omega)
    intro v7 V7 hown7 hgrow7;have neb:∀z,z<w.heap.size∨tb≤z→some z≠u7.ownBlock:=fun z hz e=>by have:=yx HU z e.symm;omega
    have HB8:Hid (Below w.heap.size w V7):=yz (B5.trans ⟨hgrow7.os,hgrow7.tape,hgrow7.output,hgrow7.size,fun z hz=>hgrow7.block z (by simp;omega) (neb z (.inl hz))⟩);have c0':=cz c0 hgrow7 (neb _ (.inl hbb));have c1':=cz c1 hgrow7 (neb _ (.inl hbb));have c2':=cz c2 hgrow7 (neb _ (.inl hbb));have d0':=cz d0 hgrow7 (neb _ (.inr (Nat.le_refl _)));have d1':=cz d1 hgrow7 (neb _ (.inr (Nat.le_refl _)));have d2':=cz d2 hgrow7 (neb _ (.inr (Nat.le_refl _)));have d3':=cz d3 hgrow7 (neb _ (.inr (Nat.le_refl _)));have HO8:Hid (V7.ownsRow w.heap.size 299 7 v7 (au L S ids (i+1)).length (dp (au L S ids (i+1)))):=yz (by rw[yx HSN,rt,List.length_append];exact hown7);clear hown7 hgrow7 hown B5 c0 c1 c2 d0 d1 d2 d3 neb;refine hK.out _ _ ?_ (fun hHeld4=>?_)
    ·exact⟨⟨c0',c1',c2'⟩,d0',d1',d2',d3'⟩
    clear hK K hHeld3;refine ae 9 rfl fun K hK=>?_;go_simp;refine hK.out _ _ ?_ (fun hHeld5=>?_)
    ·exact⟨⟨c0',c1',c2'⟩,d0',d1',d2',d3'⟩
    clear hK K hHeld4;refine wpAnyH_done (by kernel_rfl) ?_ _;clear c0' c1' c2' d0' d1' d2' d3' hHeld5;go_wp2_with fail;go_roundw
    case rel=>exact⟨i+1,by omega,by go_num,HO8,HB8⟩
    case measure=>simp[intOf]<;>omega
  ·have hin':i=n:=by omega
   subst hin';go_wp2_with fail;go_ret;exact⟨⟨_,rfl,yx HO⟩,yx HB⟩
end
end Go.Proofs.YteoonaanoenjiaaGreatDoor
