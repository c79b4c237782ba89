/- Several texts in one: SkyG, RowR, ReadB, ReadC, Join, CrcWalks, Seal, UnsealWalks, ReadD, Num, PutNum, SkyK, PutText. -/
import Derived.Test.YteoonaanoenjiaaGreatDoorL5
namespace Go.Proofs.YteoonaanoenjiaaGreatDoor
set_option linter.unusedVariables false
set_option linter.unusedSimpArgs false
set_option maxRecDepth 100000
set_option maxHeartbeats 8000000
section
open Go.Value renaming int → J
open Go.IntKind renaming i64 → Z
open Go.RowKit Go.Sort
def ik(w:World)(b n:Nat)(L:List St)(k:Nat):Prop:=∃cur:Array Value,w.heap[b]? = some (.cells cur 113 (0,0))∧cur.size=n*4 ∧
 ∀j,j<k→cur[j*4]? = some (J Z (stA L j).1)∧cur[j*4+1]? = some (J Z (stA L j).2.1)∧cur[j*4+2]? = some (J Z (stA L j).2.2.1)∧cur[j*4+3]? = some (J Z (stA L j).2.2.2)
variable {b k:Nat} {w w':World}
theorem ik.lt{n:Nat}{L:List St}(h:ik w b n L k):b<w.heap.size:=by
 obtain⟨cur,hc,_⟩:=h;exact(Array.getElem?_eq_some_iff.1 hc).1
theorem ik.kept{n:Nat}{L:List St}(h:ik w b n L k)(hB:Below w.heap.size w w'):ik w' b n L k:=by
 have hl:=h.lt;obtain⟨cur,hc,r⟩:=h;exact⟨cur,by rw[hB.block b hl];exact hc,r⟩
theorem ik.stars{n:Nat}{L:List St}(h:ik w b n L k):aH w (some ⟨b,0,none⟩) L k:=by
 have hl:=h.lt;obtain⟨cur,hc,_,hs⟩:=h;refine .inr ⟨b,0,rfl,hl,fun i hi=>?_⟩;obtain⟨h0,h1,h2,h3⟩:=hs i hi;rw[Nat.zero_add];exact⟨by rw[cell_of_row w b _ cur _ _ hc];exact h0,by rw[cell_of_row w b _ cur _ _ hc];exact h1,by rw[cell_of_row w b _ cur _ _ hc];exact h2,by rw[cell_of_row w b _ cur _ _ hc];exact h3⟩
theorem ik.old{n i:Nat}{L:List St}(h:ik w b n L k)(hi:i<n*4):∃v,w.cell? ⟨b,i,none⟩=some v:=by
 obtain⟨cur,hc,hn,_⟩:=h;rw[cell_of_row w b _ cur _ _ hc];exact⟨cur[i],Array.getElem?_eq_getElem (by omega)⟩
theorem ik.free{n:Nat}{L:List St}(h:ik w b n L k)(i:Nat):w.frozen? ⟨b,i,none⟩=false:=by
 obtain⟨cur,hc,_⟩:=h;exact frozen_of_row w b i cur _ hc
def set4(w:World)(b o:Nat)(s:St):World:=(((w.setCell ⟨b,o,none⟩ (J Z s.1)).setCell ⟨b,o+1,none⟩ (J Z s.2.1)).setCell ⟨b,o+2,none⟩ (J Z s.2.2.1)).setCell ⟨b,o+3,none⟩ (J Z s.2.2.2)
theorem ik.step{n:Nat}{L:List St}(h:ik w b n L k)(hk:k<n):ik (set4 w b (k*4) (stA L k)) b n L (k+1):=by
 obtain⟨cur,hc,hn,hs⟩:=h;have e1:=heap_setCell_same w b (k*4) cur _ (J Z (stA L k).1) hc;have e2:=heap_setCell_same _ b (k*4+1) _ _ (J Z (stA L k).2.1) e1;have e3:=heap_setCell_same _ b (k*4+2) _ _ (J Z (stA L k).2.2.1) e2;have e4:=heap_setCell_same _ b (k*4+3) _ _ (J Z (stA L k).2.2.2) e3;refine⟨_,e4,by simpa using hn,fun j hj=>?_⟩;by_cases e:j=k
 ·subst e;refine⟨?_,?_,?_,?_⟩<;>simp[Array.getElem?_setIfInBounds]<;>omega
 ·obtain⟨h0,h1,h2,h3⟩:=hs j (by omega);refine⟨?_,?_,?_,?_⟩
  ·simp only[Array.getElem?_setIfInBounds];rw[if_neg (by omega),if_neg (by omega),if_neg (by omega),if_neg (by omega)];exact h0
  ·simp only[Array.getElem?_setIfInBounds];rw[if_neg (by omega),if_neg (by omega),if_neg (by omega),if_neg (by omega)];exact h1
  ·simp only[Array.getElem?_setIfInBounds];rw[if_neg (by omega),if_neg (by omega),if_neg (by omega),if_neg (by omega)];exact h2
  ·simp only[Array.getElem?_setIfInBounds];rw[if_neg (by omega),if_neg (by omega),if_neg (by omega),if_neg (by omega)];exact h3
theorem CE{B:Nat}{w1:World}{o:Nat}{s:St}(h:Below B w w1)(hb:B≤b):Below B w (set4 w1 b o s):=(((h.setCell hb _).setCell hb _).setCell hb _).setCell hb _
theorem oI:(Tryz.prog.info? 113).map (fun i=>(i.zero,i.size,i.bytes))=some (some (.agg #[J Z 0,J Z 0,J Z 0,J Z 0]),4,32):=by kernel_rfl
theorem FN{w:World}{B n:Nat}{L:List St}{xs:List Value}(h:w'.ownsRow B 113 4 (.slice (some ⟨b,0,none⟩) n n) n xs):ik w' b n L 0:=by
 rcases h.2 with ⟨h',_⟩ | ⟨g,cap,cur,hv,_,hg,_,_,hcs,_⟩
 ·simp at h'
 ·simp only[Value.slice.injEq,Option.some.injEq,Addr.mk.injEq,and_true,true_and]at hv;obtain⟨rfl,rfl⟩:=hv;exact⟨cur,hg,hcs,fun j hj=>absurd hj (Nat.not_lt_zero _)⟩
theorem oq(h:w.grownBy w' none):Below w.heap.size w w':=⟨h.os,h.tape,h.output,h.size,fun k hk=>h.block k hk (by simp)⟩
theorem zu(L:List St)(a:Option Addr)(c:Nat)(w:World)(hn:L.length≤1048576)(hS:aH w a L L.length):
  Calls Tryz.prog 30 #[.slice a L.length c] w fun e w'=>e=.returned (.slice (some ⟨w.heap.size,0,none⟩) L.length L.length)∧ik w' w.heap.size L.length L L.length∧Below w.heap.size w w':=by
 obtain⟨n,hnl⟩:∃n,L.length=n:=⟨_,rfl⟩
 rw[hnl]at hn hS ⊢;clear hnl;have HS:=yz hS;clear hS;obtain⟨i0,hi,hz0,hz1,hz2⟩:=info_parts oI;go_enter Tryz.func30,Tryz.ntmps30;go_wp2_with (at_make;refine wpList_make_full _ rfl _ _ 34 rfl w.heap.size 113 i0 (.agg #[J Z 0,J Z 0,J Z 0,J Z 0]) 4 Tryz.underlying34 hi hz0 hz1 .i64 .i64 _ _ n rfl rfl rfl rfl (by rw[hz2];omega) (by unfold maxLen;omega) (Nat.le_refl _) ?_;intro w0 hown0 hgrow0);have H0:=yz (FN (w:=w) (L:=L) hown0);have HB0:=yz (oq hgrow0);clear hown0 hgrow0;rcases yx HS with rfl | ⟨b,o,rfl,hb,hc⟩
 ·refine wp_loop_rounds 1 ?_;rw[rounds_succ];go_wp2_with fail;go_ret;exact⟨rfl,yx H0,yx HB0⟩
 have HC:=yz hc;clear hc;go_loopw [4] (fun i wr=>∃k:Nat,k≤n∧i=J Z k∧Hid (ik wr w.heap.size n L k)∧Hid (Below w.heap.size w wr)) (fun i _=>n-(intOf i).toNat)
 case atStart=>exact⟨0,by omega,rfl,H0,HB0⟩
 case round=>
  obtain⟨k,hk,rfl,HO,HB⟩:=hrel;by_cases hkn:k<n
  ·obtain⟨⟨s1,s2,s3,s4⟩,hs⟩:∃s,stA L k=s:=⟨_,rfl⟩
   have hst:=((yx HC) k hkn).kept hb (yx HB);rw[hs]at hst;obtain⟨c0,c1,c2,c3⟩:=hst;have HT:=yz hs;clear hs;go_wp2_with fail;refine(AV s1 s2 s3 s4 _).mono ?_;rintro e w2 ⟨rfl,hx⟩;clear c0 c1 c2 c3;have O2:=an HO hx;have B2:=aA HB hx;clear hx;obtain⟨x0,e0⟩:=(yx O2).old (i:=k*4) (by omega);obtain⟨x1,e1⟩:=(yx O2).old (i:=k*4+1) (by omega);obtain⟨x2,e2⟩:=(yx O2).old (i:=k*4+2) (by omega);obtain⟨x3,e3⟩:=(yx O2).old (i:=k*4+3) (by omega);have f0:=(yx O2).free (k*4);have f1:=(yx O2).free (k*4+1);have f2:=(yx O2).free (k*4+2);have f3:=(yx O2).free (k*4+3);have O3:=(yx O2).step hkn;rw[yx HT]at O3;have HO3:=yz O3;have HB3:=yz (CE (o:=k*4) (s:=(s1,s2,s3,s4)) (yx B2) (Nat.le_refl _));clear O3;go_wp2_with fail;go_roundw
   case rel=>exact⟨k+1,by omega,by go_num,HO3,HB3⟩
   case measure=>simp[intOf];omega
  ·have hkn':k=n:=by omega
   subst hkn';go_wp2_with fail;go_ret;exact⟨rfl,yx HO,yx HB⟩
theorem zV(x y z:Int)(w:World):
  Calls Tryz.prog 81 #[.agg #[J Z x,J Z y,J Z z],.agg #[J Z x,J Z y,J Z z]] w fun e w'=>e=.returned (.bool true)∧Below w.heap.size w w':=by
 go_enter Tryz.func81,Tryz.ntmps81;go_wp2;go_ret;exact⟨rfl,aF _ _ _⟩
theorem xP(i x y z:Int)(w:World):
  Calls Tryz.prog 80 #[.agg #[J Z i,J Z x,J Z y,J Z z],.agg #[J Z i,J Z x,J Z y,J Z z]] w fun e w'=>e=.returned (.bool true)∧Below w.heap.size w w':=by
 go_enter Tryz.func80,Tryz.ntmps80;go_wp2_with fail;refine(zV x y z _).mono ?_;rintro e w1 ⟨rfl,hx⟩;go_wp2_with fail;go_ret;exact⟨rfl,aj (aF _ _ _) hx⟩
theorem vQ(L:List St)(n:Nat)(a a':Option Addr)(c c':Nat)(w:World)(hn:n≤1048576)(hS:aH w a L n)(hS':aH w a' L n):
  Calls Tryz.prog 37 #[.slice a n c,.slice a' n c'] w fun e w'=>e=.returned (.bool true)∧Below w.heap.size w w':=by
 rcases hS with rfl | ⟨b,o,rfl,hb,hc⟩
 ·clear hS';go_enter Tryz.func37,Tryz.ntmps37;go_wp2_with fail;refine wp_loop_rounds 1 ?_;rw[rounds_succ];go_wp2_with fail;go_ret;exact⟨rfl,Below.refl _ _⟩
 rcases hS' with rfl | ⟨b',o',rfl,hb',hc'⟩
 ·clear hc;go_enter Tryz.func37,Tryz.ntmps37;go_wp2_with fail;refine wp_loop_rounds 1 ?_;rw[rounds_succ];go_wp2_with fail;go_ret;exact⟨rfl,Below.refl _ _⟩
 have HC:=yz hc;have HC':=yz hc';clear hc hc';go_enter Tryz.func37,Tryz.ntmps37;go_wp2_with fail;go_loopw [5] (fun i wr=>∃k:Nat,k≤n∧i=J Z k∧Hid (Below w.heap.size w wr)) (fun i _=>n-(intOf i).toNat)
 case atStart=>exact⟨0,by omega,rfl,yz (Below.refl _ _)⟩
 case round=>
  obtain⟨k,hk,rfl,HB⟩:=hrel;by_cases hkn:k<n
  ·obtain⟨⟨s1,s2,s3,s4⟩,hs⟩:∃s,stA L k=s:=⟨_,rfl⟩
   have hst:=((yx HC) k hkn).kept hb (yx HB);have hst':=((yx HC') k hkn).kept hb' (yx HB);rw[hs]at hst hst';obtain⟨c0,c1,c2,c3⟩:=hst;obtain⟨d0,d1,d2,d3⟩:=hst';have r0:=cell_regrown c0;have r1:=cell_regrown c1;have r2:=cell_regrown c2;have r3:=cell_regrown c3;have t0:=cell_regrown d0;have t1:=cell_regrown d1;have t2:=cell_regrown d2;have t3:=cell_regrown d3;clear c0 c1 c2 c3 d0 d1 d2 d3 hs;have hkn2:(k:Int)<(n:Int):=by omega
   have cE:=yz (fun W=>xP s1 s2 s3 s4 W);go_wp2_with fail;refine bQ ?_;repeat (go_big_quiet_step (with_reducible first | exact aC cE))
   refine bW fun dq osq=>?_;have hx:=aj (yx HB) (below_regrown wr dq osq);generalize grow (redrawn wr dq) osq=W2 at hx ⊢;have HB2:=yz hx;clear hx r0 r1 r2 r3 t0 t1 t2 t3 cE HB;go_wp2_with fail;go_roundw
   case rel=>exact⟨k+1,by omega,by go_num,HB2⟩
   case measure=>simp[intOf];omega
  ·have hkn':k=n:=by omega
   subst hkn';go_wp2_with fail;go_ret;exact⟨rfl,yx HB⟩
end
section
open Go.RowKit Go.Sort
def mH(w:World)(a:Option Addr)(n:Nat)(row:Option Nat):Prop:=(n=0∧row=none)∨∃g f,a=some ⟨g,0,none⟩∧row=some g∧eO w 113 g (n*4) f
def Mkd(w:World)(a:Option Addr)(n:Nat)(row:Option Nat):Prop:=(n=0∧row=none)∨∃g,a=some ⟨g,0,none⟩∧row=some g∧eO w 113 g (n*4) (fun j=>1+(j:Int))
variable {a:Option Addr} {v:Value} {w w':World}
theorem mH.kept{n:Nat}{row:Option Nat}(h:mH w a n row)(hB:Below w.heap.size w w'):mH w' a n row:=by
 rcases h with h | ⟨g,f,h1,h2,h3⟩
 ·exact .inl h
 ·exact .inr ⟨g,f,h1,h2,h3.kept hB⟩
theorem Mkd.kept{n:Nat}{row:Option Nat}(h:Mkd w a n row)(hB:Below w.heap.size w w'):Mkd w' a n row:=by
 rcases h with h | ⟨g,h1,h2,h3⟩
 ·exact .inl h
 ·exact .inr ⟨g,h1,h2,h3.kept hB⟩
theorem mH.lt{n:Nat}{row:Option Nat}(h:mH w a n row){g:Nat}(e:row=some g):g<w.heap.size:=by
 rcases h with ⟨_,h⟩ | ⟨g',f,h1,h2,h3⟩
 ·rw[h]at e;cases e
 ·rw[h2]at e;obtain rfl:=Option.some.inj e;exact h3.lt
theorem vJ{B:Nat}{w1 w2:World}{row:Option Nat}(h:Below B w w1)(hg:w1.grownBy w2 row)(hB:B≤w1.heap.size)(hr:∀g,row=some g→B≤g):Below B w w2:=
 h.trans ⟨hg.os,hg.tape,hg.output,hg.size,fun k hk=>hg.block k (by omega) (fun e=>by have:=hr k e.symm;omega)⟩
def ek(L:List St):List Value:=L.flatMap stC
theorem ki(L:List St):(ek L).length=L.length*4:=by
 unfold ek
 induction L with
 | nil=>rfl
 | cons x l ih=>simp[List.flatMap_cons,stC]at *;omega
theorem oB(L:List St):∀(i:Nat),i<L.length→(ek L)[i*4]? = some (.int .i64 (stA L i).1)∧(ek L)[i*4+1]? = some (.int .i64 (stA L i).2.1)∧(ek L)[i*4+2]? = some (.int .i64 (stA L i).2.2.1)∧(ek L)[i*4+3]? = some (.int .i64 (stA L i).2.2.2):=by
 induction L with
 | nil=>intro i hi;simp at hi
 | cons x l ih=>
  intro i hi
  match i with
  | 0=>exact⟨rfl,rfl,rfl,rfl⟩
  | i+1=>
   have h:=ih i (by simpa using hi)
   have e:∀r,(ek (x :: l))[(i+1)*4+r]? = (ek l)[i*4+r]?:=fun r=>by
    rw[show (i+1)*4+r=(i*4+r)+4 by omega];rfl
   have e2:stA (x :: l) (i+1)=stA l i:=rfl;rw[e2];exact⟨by have:=e 0;simp only[Nat.add_zero]at this;rw[this];exact h.1,by rw[e 1];exact h.2.1,by rw[e 2];exact h.2.2.1,by rw[e 3];exact h.2.2.2⟩
theorem oQ{B:Nat}{L:List St}(h:w.ownsRow B 113 4 v L.length (ek L)):∃a cap,v=.slice a L.length cap∧L.length≤cap∧cap≤maxLen∧aH w a L L.length:=by
 rcases h.2 with ⟨h1,h0⟩ | ⟨g,cap,cur,hv,hb,hg,hnc,hcm,hcs,htake⟩
 ·exact⟨none,0,by rw[h1,h0],by omega,Nat.zero_le _,.inl h0⟩
 ·refine⟨_,cap,hv,hnc,hcm,.inr ⟨g,0,rfl,(Array.getElem?_eq_some_iff.1 hg).1,fun i hi=>?_⟩⟩
  have hc:∀j,j<L.length*4→w.cell? ⟨g,j,none⟩=(ek L)[j]?:=fun j hj=>by
   rw[cell_of_row w g j cur _ _ hg,←htake,List.getElem?_take,if_pos hj];simp
  obtain⟨e0,e1,e2,e3⟩:=oB L i hi;rw[Nat.zero_add];exact⟨by rw[hc _ (by omega)];exact e0,by rw[hc _ (by omega)];exact e1,by rw[hc _ (by omega)];exact e2,by rw[hc _ (by omega)];exact e3⟩
theorem ru(L:List St)(j:Nat)(hj:j<L.length*4):∃z,(ek L)[j]? = some (.int .i64 z):=by
 obtain⟨e0,e1,e2,e3⟩:=oB L (j / 4) (by omega);have h:j=j / 4*4∨j=j / 4*4+1∨j=j / 4*4+2∨j=j / 4*4+3:=by omega
 rcases h with h | h | h | h
 ·rw[h];exact⟨_,e0⟩
 ·rw[h];exact⟨_,e1⟩
 ·rw[h];exact⟨_,e2⟩
 ·rw[h];exact⟨_,e3⟩
theorem Ic{B:Nat}{L:List St}{cap:Nat}(h:w.ownsRow B 113 4 v L.length (ek L))(hv:v=.slice a L.length cap):∃row,mH w a L.length row∧∀g,row=some g→B≤g:=by
 rcases h.2 with ⟨h1,h0⟩ | ⟨g,cap',cur,hv',hb,hg,hnc,hcm,hcs,htake⟩
 ·exact⟨none,.inl ⟨h0,rfl⟩,fun g e=>by cases e⟩
 ·rw[hv]at hv';injection hv' with e1 e2 e3;refine⟨some g,.inr ⟨g,fun j=>if h:j<L.length*4 then Classical.choose (ru L j h) else 0,e1,rfl,cur,hg,fun j hj=>?_⟩,fun g' e=>by obtain rfl:=Option.some.inj e;exact hb⟩
  have e4:cur[j]? = (ek L)[j]?:=by
   rw[←htake,List.getElem?_take,if_pos hj];simp
  rw[e4];simp only[hj,dif_pos];exact Classical.choose_spec (ru L j hj)
end
section
open Go.RowKit
theorem yJ{s:ByteArray}{p q:Nat}{x:St}(h:dQ s p=some (x,q)):p<q∧q≤s.size:=by
 unfold dQ at h;split at h
 ·cases h
 ·rename_i a p1 h1
  split at h
  ·cases h
  ·rename_i b p2 h2
   split at h
   ·cases h
   ·rename_i c p3 h3
    split at h
    ·cases h
    ·rename_i d p4 h4
     have e1:=aT h1;have e2:=aT h2;have e3:=aT h3;have e4:=aT h4;simp at h;omega
variable {xs:List Value} {m:Nat} {t:TypeId} {v:Value} {w:World}
theorem sj{w':World}{B:Nat}{n:Nat}(h:w.ownsRow B t m v n xs)(hB:Below w.heap.size w w'):w'.ownsRow B t m v n xs:=
 h.kept (row:=none) ⟨hB.os,hB.tape,hB.output,hB.size,fun k hk _=>hB.block k hk⟩ (by cases hv:v.ownBlock<;>simp)
theorem lP{B:Nat}{w1 w2:World}{n:Nat}(h:Below B w w1)(ho:w1.ownsRow B t m v n xs)(hg:w1.grownBy w2 v.ownBlock)(hB:B≤w1.heap.size):Below B w w2:=
 h.trans ⟨hg.os,hg.tape,hg.output,hg.size,fun k hk=>hg.block k (by omega) (fun e=>by have:=(ho.lt k e.symm).1;omega)⟩
end
section
open Go.RowKit
theorem qm(a:ByteArray)(w:World)(ha:a.size≤100000):
  Calls Tryz.prog 133 #[.string a,.string ByteArray.empty] w fun e w'=>e=.returned (.string a)∧Below w.heap.size w w':=by
 obtain⟨M,hM,hmk⟩:=wD a.size (by omega);have hinfo:(Tryz.prog.info? 5).map (·.size)=some 1:=by kernel_rfl
 have hcp:=Lib.run_copy_row_string (P:=Tryz.prog) (w.alloc (.cells M 5)) 176 9 3 5 w.heap.size 0 a.size a.size a M 5 Tryz.underlying176 hinfo (heap_alloc_new w _) (by omega) (by omega);rw[iA]at hcp;obtain⟨Y1,hY1⟩:∃Y,Y=(M.toList.take 0 ++ Lib.byteCells a.data.toList ++ M.toList.drop (0+a.size)).toArray:=⟨_,rfl⟩
 rw[←hY1]at hcp;have hY1l:Y1.toList=Lib.byteCells a.data.toList:=by rw[hY1];simp[←hM]
 have hcp2:∀d dLen dCap W,(Builtin.copy_ #[176,9] 3 #[.slice d dLen dCap,.string ByteArray.empty]).run Tryz.prog W=.ok (goInt 0) W:=fun d dLen dCap W=>Lib.run_copy_empty_string W 176 9 3 5 d dLen dCap ByteArray.empty Tryz.underlying176 (by rw[hinfo];rfl) rfl;have hcv:=lL w 5 Y1 a hY1l a.size;clear hY1 hY1l hinfo hM;go_enter Tryz.func133,Tryz.ntmps133;go_wp2;go_ret;exact⟨rfl,(Below.refl _ _).alloc (Nat.le_refl _) _⟩
theorem mD(a b:ByteArray)(w:World)(ha:a.size≤100000)(hb:b.size≤100000):
  Calls Tryz.prog 133 #[.string a,.string b] w fun e w'=>e=.returned (.string (a ++ b))∧Below w.heap.size w w':=by
 obtain⟨M,hM,hmk0⟩:=wD (a.size+b.size) (by omega);have hmk:∀W:World,(Instr.makeSlice 176 (.int .i64 ((a.size:Int)+(b.size:Int))) (.int .i64 ((a.size:Int)+(b.size:Int)))).run Tryz.prog W=.ok (.slice (some ⟨W.heap.size,0,none⟩) (a.size+b.size) (a.size+b.size)) (W.alloc (.cells M 5)):=fun W=>by have:=hmk0 W;simpa using this
 clear hmk0;have hinfo:(Tryz.prog.info? 5).map (·.size)=some 1:=by kernel_rfl
 have hcp:=Lib.run_copy_row_string (P:=Tryz.prog) (w.alloc (.cells M 5)) 176 9 3 5 w.heap.size 0 (a.size+b.size) (a.size+b.size) a M 5 Tryz.underlying176 hinfo (heap_alloc_new w _) (by omega) (by omega);rw[iA]at hcp;obtain⟨Y1,hY1⟩:∃Y,Y=(M.toList.take 0 ++ Lib.byteCells a.data.toList ++ M.toList.drop (0+a.size)).toArray:=⟨_,rfl⟩
 rw[←hY1]at hcp;have hla:(Lib.byteCells a.data.toList).length=a.size:=by rw[Lib.byteCells_length,←Lib.size_eq]
 have hlb:(Lib.byteCells b.data.toList).length=b.size:=by rw[Lib.byteCells_length,←Lib.size_eq]
 have hY1l:Y1.toList=Lib.byteCells a.data.toList ++ M.toList.drop a.size:=by rw[hY1];simp
 have hY1s:Y1.size=a.size+b.size:=by rw[←Array.length_toList,hY1l];simp[hla,hM]
 have hab:(a ++ b).data.toList=a.data.toList ++ b.data.toList:=by simp
 have hs:(a ++ b).size=a.size+b.size:=by simp
 clear hY1;by_cases h0:b=ByteArray.empty
 ·subst h0;refine(qm a w ha).mono ?_;rintro e w' ⟨rfl,hw⟩;exact⟨by rw[append_empty],hw⟩
 ·have hpos:0<b.size:=by
   rcases Nat.eq_zero_or_pos b.size with h | h
   ·exact absurd (ByteArray.ext (Array.eq_empty_of_size_eq_zero h)) h0
   ·exact h
  have hcp2:=Lib.run_copy_row_string (P:=Tryz.prog) (w.alloc (.cells Y1 5)) 176 9 3 5 w.heap.size a.size b.size b.size b Y1 5 Tryz.underlying176 hinfo (heap_alloc_new w _) (by omega) (by omega);rw[iA]at hcp2;obtain⟨Y2,hY2⟩:∃Y,Y=(Y1.toList.take a.size ++ Lib.byteCells b.data.toList ++ Y1.toList.drop (a.size+b.size)).toArray:=⟨_,rfl⟩
  rw[←hY2]at hcp2
  have hY2l:Y2.toList=Lib.byteCells (a ++ b).data.toList:=by
   rw[hY2,hab,hY1l];rw[List.take_left' hla,List.drop_of_length_le (by simp[hla,hM])];simp[Lib.byteCells]
  have hcv:=lL w 5 Y2 (a ++ b) hY2l (a.size+b.size);rw[hs]at hcv;clear hY2 hY2l hab hs hY1l hla hlb;go_enter Tryz.func133,Tryz.ntmps133;go_wp2;go_ret;exact⟨rfl,(Below.refl _ _).alloc (Nat.le_refl _) _⟩
theorem xN(r b:Nat)(w:World)(hr:r<4294967296)(hb:b<256):
  Calls Tryz.prog 197 #[.int .u32 (r:Int),.int .u8 (b:Int)] w fun e w'=>e=.returned (.int .u32 (lJ r b:Nat))∧w'=w:=by
 have H8:=yz (Hr r b hb);go_enter Tryz.func197,Tryz.ntmps197;go_wp2;go_loop [0,5] (fun t i=>∃k:Nat,k≤8∧i=.int .i64 k∧t=.int .u32 (fc k r b:Nat)) (fun _ i=>8-(intOf i).toNat)
 case atStart=>exact⟨0,by omega,rfl,rfl⟩
 case round=>
  obtain⟨k,hk,rfl,rfl⟩:=hrel;have hx:=EY k b hr;by_cases hlt:k<8
  ·have ho:=Hz (fc k r b) b k hx hb;by_cases hp:(fc k r b ^^^ (b / 2 ^ k)) % 2=1
   ·have hw:(bits .and .u32 (bits .xor .u32 (fc k r b:Int) ((b:Int) / 2 ^ k % 4294967296)) 1==1)=true:=by rw[ho,hp];rfl
    have hxr:=u32_xor_nat (fc k r b / 2) 3988292384 (by omega) (by omega);have HN:=yz (show fc (k+1) r b=(fc k r b / 2) ^^^ 3988292384 by rw[fc,if_pos hp]);have HX:=yz hxr;clear hxr hp ho;generalize fc k r b=x at *;go_wp2;go_round
    case rel=>exact⟨k+1,by omega,by go_num,by rw[yx HN,←yx HX];rfl⟩
    case measure=>simp[intOf];omega
   ·have hw:(bits .and .u32 (bits .xor .u32 (fc k r b:Int) ((b:Int) / 2 ^ k % 4294967296)) 1==1)=false:=by rw[ho];simp;omega
    have HN:=yz (show fc (k+1) r b=fc k r b / 2 by rw[fc,if_neg hp]);clear hp ho;generalize fc k r b=x at *;go_wp2;go_round
    case rel=>exact⟨k+1,by omega,by go_num,by rw[yx HN];rfl⟩
    case measure=>simp[intOf];omega
  ·go_wp2;go_ret;have e:k=8:=by omega
   subst e;exact⟨by rw[←yx H8];rfl,rfl⟩
theorem mP(c:Nat)(s:ByteArray)(w:World)(hc:c<4294967296)(hs:s.size≤8000):
  Calls Tryz.prog 122 #[.int .i64 (c:Int),.string s] w fun e w'=>e=.returned (.int .i64 (iN c s:Nat))∧w'=w:=by
 go_enter Tryz.func122,Tryz.ntmps122;go_wp2;go_loop [5,6] (fun t i=>∃k:Nat,k≤s.size∧i=.int .i64 k∧t=.int .u32 (gJ s (c ^^^ 4294967295) k:Nat)) (fun _ i=>s.size-(intOf i).toNat)
 case atStart=>exact⟨0,by omega,rfl,by rw[show (gJ s (c ^^^ 4294967295) 0:Nat)=c ^^^ 4294967295 from rfl];exact congrArg (Value.int IntKind.u32) (u32_xor_nat c 4294967295 hc (by omega))⟩
 case round=>
  obtain⟨k,hk,rfl,rfl⟩:=hrel;have hx:=rl s (fx hc (by omega):c ^^^ 4294967295<4294967296) k;by_cases hlt:k<s.size
  ·have HS:=yz (show gJ s (c ^^^ 4294967295) (k+1)=lJ (gJ s (c ^^^ 4294967295) k) s[k].toNat by rw[gJ,dX hlt]);generalize gJ s (c ^^^ 4294967295) k=x at *;have hb:s[k].toNat<256:=UInt8.toNat_lt _;have HX:=yz (u32_xor_nat x s[k].toNat hx (by omega));have hy:x ^^^ s[k].toNat<4294967296:=fx hx (by omega);go_wp2;go_loop [5,7] (fun t i=>∃j:Nat,j≤8∧i=.int .i64 j∧t=.int .u32 (gF j (x ^^^ s[k].toNat):Nat)) (fun _ i=>8-(intOf i).toNat)
   case atStart=>exact⟨0,by omega,rfl,congrArg (Value.int IntKind.u32) (yx HX)⟩
   case round=>
    obtain⟨j,hj,rfl,rfl⟩:=hrel;have hz:=zj j hy;by_cases hj8:j<8
    ·have ho:=xz _ hz;by_cases hp:gF j (x ^^^ s[k].toNat) % 2=1
     ·have hw:(bits .and .u32 (gF j (x ^^^ s[k].toNat):Nat) 1==1)=true:=by rw[ho,hp];rfl
      have HN:=yz (show gF (j+1) (x ^^^ s[k].toNat)=(gF j (x ^^^ s[k].toNat) / 2) ^^^ 3988292384 by rw[gF,step,if_pos hp]);have HX:=yz (u32_xor_nat (gF j (x ^^^ s[k].toNat) / 2) 3988292384 (by omega) (by omega));clear hp ho;generalize gF j (x ^^^ s[k].toNat)=y at *;go_wp2;go_round
      case rel=>exact⟨j+1,by omega,by go_num,by rw[yx HN,←yx HX];rfl⟩
      case measure=>simp[intOf];omega
     ·have hw:(bits .and .u32 (gF j (x ^^^ s[k].toNat):Nat) 1==1)=false:=by rw[ho];simp;omega
      have HN:=yz (show gF (j+1) (x ^^^ s[k].toNat)=gF j (x ^^^ s[k].toNat) / 2 by rw[gF,step,if_neg hp]);clear hp ho;generalize gF j (x ^^^ s[k].toNat)=y at *;go_wp2;go_round
      case rel=>exact⟨j+1,by omega,by go_num,by rw[yx HN];rfl⟩
      case measure=>simp[intOf];omega
    ·have e:j=8:=by omega
     subst e;go_wp2;go_round
     case rel=>exact⟨k+1,by omega,by go_num,by rw[yx HS];rfl⟩
     case measure=>simp[intOf];omega
  ·have e:k=s.size:=by omega
   subst e;have HF:=yz (show iN c s=gJ s (c ^^^ 4294967295) s.size ^^^ 4294967295 from rfl);generalize gJ s (c ^^^ 4294967295) s.size=x at *;have HX:=yz (JQ x hx);have hf2:x ^^^ 4294967295<4294967296:=fx hx (by omega);go_wp2;go_ret;exact⟨by rw[yx HF];simp[yx HX,tq _ hf2],rfl⟩
theorem qh(c:Nat)(s:ByteArray)(w:World)(hc:c<4294967296)(hs:s.size≤8000):
  Calls Tryz.prog 173 #[.int .i64 (c:Int),.string s] w fun e w'=>e=.returned (.int .i64 (iN c s:Nat))∧w'=w:=by
 have d1:decide ((8000:Int)<(s.size:Int))=false:=by simp;omega
 have d2:decide ((c:Int)<0)=false:=by simp
 have d3:decide ((4294967295:Int)<(c:Int))=false:=by simp;omega
 go_enter Tryz.func173,Tryz.ntmps173;go_wp2;go_loop [5,6] (fun t i=>∃k:Nat,k≤s.size∧i=.int .i64 k∧t=.int .u32 (gJ s (c ^^^ 4294967295) k:Nat)) (fun _ i=>s.size-(intOf i).toNat)
 case atStart=>exact⟨0,by omega,rfl,congrArg (Value.int IntKind.u32) (GO c hc)⟩
 case round=>
  obtain⟨k,hk,rfl,rfl⟩:=hrel;have hx:=rl s (fx hc (by omega):c ^^^ 4294967295<4294967296) k;by_cases hlt:k<s.size
  ·have HS:=yz (show gJ s (c ^^^ 4294967295) (k+1)=lJ (gJ s (c ^^^ 4294967295) k) s[k].toNat by rw[gJ,dX hlt]);generalize gJ s (c ^^^ 4294967295) k=x at *;have hb:s[k].toNat<256:=UInt8.toNat_lt _;go_wp2_with (go_at_call 197;refine(xN _ _ _ hx hb).mono ?_;rintro e w' ⟨rfl,rfl⟩);go_round
   case rel=>exact⟨k+1,by omega,by go_num,by rw[yx HS]⟩
   case measure=>simp[intOf];omega
  ·have e:k=s.size:=by omega
   subst e;have HF:=yz (show iN c s=gJ s (c ^^^ 4294967295) s.size ^^^ 4294967295 from rfl);generalize gJ s (c ^^^ 4294967295) s.size=x at *;have HX:=yz (GO x hx);have hf2:x ^^^ 4294967295<4294967296:=fx hx (by omega);go_wp2;go_ret;exact⟨by rw[yx HF];simp[yx HX,tq _ hf2],rfl⟩
theorem rN(c:Int)(s:ByteArray)(w:World)(hs:s.size≤1048576)(h:8000<s.size∨c<0∨4294967295<c):
  Calls Tryz.prog 173 #[.int .i64 c,.string s] w fun e w'=>e=.returned (.int .i64 0)∧w'=w:=by
 by_cases h1:8000<s.size
 ·have d1:decide ((8000:Int)<(s.size:Int))=true:=by simp;omega
  go_enter Tryz.func173,Tryz.ntmps173;go_wp2;go_ret;exact⟨rfl,rfl⟩
 ·have d1:decide ((8000:Int)<(s.size:Int))=false:=by simp;omega
  by_cases h2:c<0
  ·have d2:decide (c<0)=true:=by simp;omega
   go_enter Tryz.func173,Tryz.ntmps173;go_wp2;go_ret;exact⟨rfl,rfl⟩
  ·have d2:decide (c<0)=false:=by simp;omega
   have d3:decide ((4294967295:Int)<c)=true:=by simp;omega
   go_enter Tryz.func173,Tryz.ntmps173;go_wp2;go_ret;exact⟨rfl,rfl⟩
theorem yf(s:ByteArray)(w:World)(hs:s.size≤1048576):
  Calls Tryz.prog 135 #[.string s] w fun e w'=>e=.returned (.int .i64 (if 8000<s.size then 0 else (iN 0 s:Nat)))∧w'=w:=by
 by_cases h1:8000<s.size
 ·go_enter Tryz.func135,Tryz.ntmps135;go_wp2_with (go_at_call 173;refine(rN 0 _ _ hs (.inl h1)).mono ?_;rintro e w' ⟨rfl,rfl⟩);go_ret;simp
 ·go_enter Tryz.func135,Tryz.ntmps135;go_wp2_with (go_at_call 173;refine(qh 0 _ _ (by omega) (by omega)).mono ?_;rintro e w' ⟨rfl,rfl⟩);go_ret;simp
def rC(n:Int):ByteArray:=strOfNums [n % 256,n / 256 % 256,n / 65536 % 256,n / 16777216]
theorem IK(w:World)(T:TypeId)(c0 c1 c2 c3:Int):
  (convert 176 9 (.slice (some ⟨w.heap.size,0,none⟩) 4 4)).run Tryz.prog (w.alloc (.cells #[.int .u8 c0,.int .u8 c1,.int .u8 c2,.int .u8 c3] T))=.ok (.string (strOfNums [c0,c1,c2,c3])) (w.alloc (.cells #[.int .u8 c0,.int .u8 c1,.int .u8 c2,.int .u8 c3] T)):=by
 refine run_convert_bytes_arg (P:=Tryz.prog) _ 176 5 Tryz.underlying176 Tryz.underlying5 w.heap.size 0 4 4 [c0,c1,c2,c3] rfl ?_ 9 Tryz.underlying9;intro i hi
 match i,hi with
 | 0,_=>simp
 | 1,_=>simp
 | 2,_=>simp
 | 3,_=>simp
theorem lh(n:Nat)(w:World)(hn:n<4294967296):
  Calls Tryz.prog 121 #[.int .i64 (n:Int)] w fun e w'=>e=.returned (.string (rC n))∧Below w.heap.size w w':=by
 have hcv:=IK w 5 ((n:Int) % 256) ((n:Int) / 256 % 256) ((n:Int) / 65536 % 256) ((n:Int) / 16777216);go_enter Tryz.func121,Tryz.ntmps121;go_wp2;go_ret;exact⟨rfl,(Below.refl _ _).alloc (Nat.le_refl _) _⟩
theorem zo(n:Nat)(w:World)(hn:n<4294967296):
  Calls Tryz.prog 134 #[.int .i64 (n:Int)] w fun e w'=>e=.returned (.string (rC n))∧Below w.heap.size w w':=by
 have hcv:=IK w 231 ((n:Int) % 256) ((n:Int) / 256 % 256) ((n:Int) / 65536 % 256) ((n:Int) / 16777216);go_enter Tryz.func134,Tryz.ntmps134;go_wp2
 go_loopw [5] (fun i wr=>(i=.int .i64 0∧wr=w.alloc (.cells #[.int .u8 0,.int .u8 0,.int .u8 0,.int .u8 0] 231)) ∨
   (i=.int .i64 1∧wr=w.alloc (.cells #[.int .u8 ((n:Int) % 256),.int .u8 0,.int .u8 0,.int .u8 0] 231)) ∨
   (i=.int .i64 2∧wr=w.alloc (.cells #[.int .u8 ((n:Int) % 256),.int .u8 ((n:Int) / 256 % 256),.int .u8 0,.int .u8 0] 231)) ∨
   (i=.int .i64 3∧wr=w.alloc (.cells #[.int .u8 ((n:Int) % 256),.int .u8 ((n:Int) / 256 % 256),.int .u8 ((n:Int) / 65536 % 256),.int .u8 0] 231)) ∨
   (i=.int .i64 4∧wr=w.alloc (.cells #[.int .u8 ((n:Int) % 256),.int .u8 ((n:Int) / 256 % 256),.int .u8 ((n:Int) / 65536 % 256),.int .u8 ((n:Int) / 16777216)] 231))) (fun i _=>4-(intOf i).toNat)
 case atStart=>exact .inl ⟨rfl,rfl⟩
 case round=>
  rcases hrel with ⟨rfl,rfl⟩ | ⟨rfl,rfl⟩ | ⟨rfl,rfl⟩ | ⟨rfl,rfl⟩ | ⟨rfl,rfl⟩
  ·go_wp2;exact⟨.inr (.inl ⟨rfl,by first | trivial | rfl⟩),by simp[intOf]⟩
  ·go_wp2;exact⟨.inr (.inr (.inl ⟨rfl,by first | trivial | rfl⟩)),by simp[intOf]⟩
  ·go_wp2;exact⟨.inr (.inr (.inr (.inl ⟨rfl,by first | trivial | rfl⟩))),by simp[intOf]⟩
  ·go_wp2;exact⟨.inr (.inr (.inr (.inr ⟨rfl,by first | trivial | rfl⟩))),by simp[intOf]⟩
  ·go_wp2;go_ret;exact⟨rfl,(Below.refl _ _).alloc (Nat.le_refl _) _⟩
def bF(s:ByteArray):ByteArray:=if 7996<s.size then ⟨#[]⟩ else s ++ rC (iN 0 s:Nat)
theorem oC(n:Int):(rC n).size=4:=by simp[rC,strOfNums_size]
theorem fE(s:ByteArray)(w:World)(hs:s.size≤1048576):
  Calls Tryz.prog 90 #[.string s] w fun e w'=>e=.returned (.string (bF s))∧Below w.heap.size w w':=by
 by_cases h1:7996<s.size
 ·have HS:=yz (show bF s=⟨#[]⟩ by simp[bF,h1]);go_enter Tryz.func90,Tryz.ntmps90;go_wp2;go_ret;exact⟨by rw[yx HS];rfl,Below.refl _ _⟩
 ·have HS:=yz (show bF s=s ++ rC (iN 0 s:Nat) by simp[bF,h1]);have h4:=oC (iN 0 s:Nat);have hc:=nr (c:=0) s (by omega);go_enter Tryz.func90,Tryz.ntmps90;go_wp2_with (first | (go_at_call 122;refine(mP 0 _ _ (by omega) (by omega)).mono ?_;rintro e w' ⟨rfl,rfl⟩) | (go_at_call 121;refine(lh _ _ hc).mono ?_;rintro e w' ⟨rfl,hb⟩));go_ret;exact⟨by rw[yx HS];rfl,hb⟩
theorem kt(s:ByteArray)(w:World)(hs:s.size≤1048576):
  Calls Tryz.prog 95 #[.string s] w fun e w'=>e=.returned (.string (bF s))∧Below w.heap.size w w':=by
 by_cases h1:7996<s.size
 ·have HS:=yz (show bF s=⟨#[]⟩ by simp[bF,h1]);go_enter Tryz.func95,Tryz.ntmps95;go_wp2;go_ret;exact⟨by rw[yx HS];rfl,Below.refl _ _⟩
 ·have HS:=yz (show bF s=s ++ rC (iN 0 s:Nat) by simp[bF,h1]);have h4:=oC (iN 0 s:Nat);have hc:=nr (c:=0) s (by omega);go_enter Tryz.func95,Tryz.ntmps95;go_wp2_with fail;refine(yf _ _ hs).mono ?_;rintro e w' ⟨rfl,rfl⟩;rw[if_neg (show ¬8000<s.size by omega)];go_wp2_with fail;refine(zo _ _ hc).mono ?_;rintro e w1 ⟨rfl,hb1⟩;go_wp2_with fail;refine(mD _ _ _ (by omega) (by omega)).mono ?_;rintro e w2 ⟨rfl,hb2⟩;go_wp2;go_ret;exact⟨by rw[yx HS];rfl,hb1.trans (hb2.mono hb1.size)⟩
end
section
open Go.Value renaming int → J
open Go.IntKind renaming i64 → Z
open Go.RowKit
theorem jE(s:ByteArray):(s.extract 0 (s.size-4)).size=s.size-4:=by simp
variable {a b:ByteArray}
theorem Gz(h:a=b):(a.toList==b.toList)=true:=by subst h;simp
theorem AM(h:a≠b):(a.toList==b.toList)=false:=by
 rw[ByteArray.toList_eq,ByteArray.toList_eq];simp;intro e;exact h (ByteArray.ext e)
theorem JJ(s:ByteArray):s.extract 0 (s.size-4) ++ s.extract (s.size-4) s.size=s:=by
 simp
theorem yU(s:ByteArray)(h:4≤s.size)(hs:s.size≤8000):bF (s.extract 0 (s.size-4))=s↔rC (iN 0 (s.extract 0 (s.size-4)):Nat)=s.extract (s.size-4) s.size:=by
 have hb:=jE s;have hx:=JJ s;generalize s.extract 0 (s.size-4)=b at *;generalize s.extract (s.size-4) s.size=t at *;have e:bF b=b ++ rC (iN 0 b:Nat):=by simp[bF];intro;omega
 rw[e];constructor
 ·intro h1;rw[←hx]at h1;exact(ByteArray.append_right_inj _).1 h1
 ·intro h1;rw[h1];exact hx
theorem Cj{w w1:World}{T:TypeId}(hb:Below (w.alloc (.cells #[.string ⟨#[]⟩,J Z 0,J Z 0] T)).heap.size (w.alloc (.cells #[.string ⟨#[]⟩,J Z 0,J Z 0] T)) w1):
  w1.cell? ⟨w.heap.size,0,none⟩=some (.string ⟨#[]⟩)∧w1.cell? ⟨w.heap.size,1,none⟩=some (J Z 0)∧w1.cell? ⟨w.heap.size,2,none⟩=some (J Z 0) ∧
  w1.frozen? ⟨w.heap.size,0,none⟩=false∧w1.frozen? ⟨w.heap.size,1,none⟩=false∧w1.frozen? ⟨w.heap.size,2,none⟩=false∧w.heap.size<w1.heap.size∧Below w.heap.size w w1:=by
 have hlt:w.heap.size<(w.alloc (.cells #[.string ⟨#[]⟩,J Z 0,J Z 0] T)).heap.size:=by simp
 refine⟨?_,?_,?_,?_,?_,?_,Nat.lt_of_lt_of_le hlt hb.size,((Below.refl _ w).alloc (Nat.le_refl _) _).trans (hb.mono (Nat.le_of_lt hlt))⟩
 ·rw[hb.cell (p:=⟨w.heap.size,0,none⟩) hlt];simp
 ·rw[hb.cell (p:=⟨w.heap.size,1,none⟩) hlt];simp
 ·rw[hb.cell (p:=⟨w.heap.size,2,none⟩) hlt];simp
 ·rw[hb.frozen (p:=⟨w.heap.size,0,none⟩) hlt];simp
 ·rw[hb.frozen (p:=⟨w.heap.size,1,none⟩) hlt];simp
 ·rw[hb.frozen (p:=⟨w.heap.size,2,none⟩) hlt];simp
theorem tZ(s:ByteArray)(w:World)(hs:s.size≤8000)(h:4≤s.size)(hq:rC (iN 0 (s.extract 0 (s.size-4)):Nat)=s.extract (s.size-4) s.size):
  Calls Tryz.prog 84 #[.string s] w fun e w'=>e=.returned (.agg #[.string (s.extract 0 (s.size-4)),J Z 0,J Z 0])∧Below w.heap.size w w':=by
 have h4:(4:Int)≤(s.size:Int):=by omega
 have h7:(s.size:Int)-4≤(s.size:Int):=by omega
 have hwr:IntKind.i64.wrap ((s.size:Int)-4)=(s.size:Int)-4:=by rw[IntKind.wrap_i64];omega
 have hn:((s.size:Int)-4).toNat=s.size-4:=by omega
 have hb:=jE s;have hc:=nr (c:=0) (s.extract 0 (s.size-4)) (by omega);have h8:(s.extract 0 (s.size-4)).size≤8000:=by omega
 have hq':=Gz hq;clear hq hb;go_enter Tryz.func84,Tryz.ntmps84;go_wp2_with fail;go_region_with (first | (go_at_call 122;refine(mP 0 _ _ (by omega) h8).mono ?_;rintro e w' ⟨rfl,rfl⟩) | (go_at_call 121;refine(lh _ _ hc).mono ?_;rintro e w' ⟨rfl,hb⟩))
 obtain⟨c0,c1,c2,f0,f1,f2,hz,hB⟩:=Cj ((Below.refl _ _).drew.trans hb);clear hb;go_wp2;exact bodyPost_ret (v:=.agg #[.string (s.extract 0 (s.size-4)),J Z 0,J Z 0]) (by simp[results,Tryz.results84,go_sem,c0,c1,c2]) rfl ⟨rfl,((hB.setCell (by simp) _).setCell (by simp) _).setCell (by simp) _⟩
theorem sS(s:ByteArray)(w:World)(hs:s.size≤8000)(h:4≤s.size)(hq:rC (iN 0 (s.extract 0 (s.size-4)):Nat)≠s.extract (s.size-4) s.size):
  Calls Tryz.prog 84 #[.string s] w fun e w'=>e=.returned (.agg #[.string ⟨#[]⟩,J Z 0,J Z 5])∧Below w.heap.size w w':=by
 have h4:(4:Int)≤(s.size:Int):=by omega
 have h7:(s.size:Int)-4≤(s.size:Int):=by omega
 have hwr:IntKind.i64.wrap ((s.size:Int)-4)=(s.size:Int)-4:=by rw[IntKind.wrap_i64];omega
 have hn:((s.size:Int)-4).toNat=s.size-4:=by omega
 have hb:=jE s;have hc:=nr (c:=0) (s.extract 0 (s.size-4)) (by omega);have h8:(s.extract 0 (s.size-4)).size≤8000:=by omega
 have hq':=AM hq;clear hq hb;go_enter Tryz.func84,Tryz.ntmps84;go_wp2_with fail;go_region_with (first | (go_at_call 122;refine(mP 0 _ _ (by omega) h8).mono ?_;rintro e w' ⟨rfl,rfl⟩) | (go_at_call 121;refine(lh _ _ hc).mono ?_;rintro e w' ⟨rfl,hb⟩))
 obtain⟨c0,c1,c2,f0,f1,f2,hz,hB⟩:=Cj ((Below.refl _ _).drew.trans hb);clear hb;go_wp2;exact bodyPost_ret (v:=.agg #[.string ⟨#[]⟩,J Z 0,J Z 5]) (by simp[results,Tryz.results84,go_sem,c0,c1,c2]) rfl ⟨rfl,((hB.setCell (by simp) _).setCell (by simp) _).setCell (by simp) _⟩
theorem ua(s:ByteArray)(w:World)(hs:s.size≤1048576)(h:8000<s.size):
  Calls Tryz.prog 84 #[.string s] w fun e w'=>e=.returned (.agg #[.string ⟨#[]⟩,J Z 0,J Z 2])∧Below w.heap.size w w':=by
 go_enter Tryz.func84,Tryz.ntmps84;go_wp2;exact bodyPost_ret (v:=.agg #[.string ⟨#[]⟩,J Z 0,J Z 2]) (by simp[results,Tryz.results84,go_sem]) rfl ⟨rfl,(Below.refl _ _).alloc (Nat.le_refl _) _⟩
theorem pe(s:ByteArray)(w:World)(h:s.size<4):
  Calls Tryz.prog 84 #[.string s] w fun e w'=>e=.returned (.agg #[.string ⟨#[]⟩,J Z 0,J Z 4])∧Below w.heap.size w w':=by
 go_enter Tryz.func84,Tryz.ntmps84;go_wp2;exact bodyPost_ret (v:=.agg #[.string ⟨#[]⟩,J Z 0,J Z 4]) (by simp[results,Tryz.results84,go_sem]) rfl ⟨rfl,(Below.refl _ _).alloc (Nat.le_refl _) _⟩
theorem tK(s:ByteArray)(w:World)(hs:s.size≤1048576)(h:8000<s.size):
  Calls Tryz.prog 130 #[.string s] w fun e w'=>e=.returned (.agg #[.string ⟨#[]⟩,J Z 0,J Z 2])∧Below w.heap.size w w':=by
 go_enter Tryz.func130,Tryz.ntmps130;go_wp2;exact bodyPost_ret (v:=.agg #[.string ⟨#[]⟩,J Z 0,J Z 2]) (by simp[results,Tryz.results130,go_sem]) rfl ⟨rfl,(Below.refl _ _).alloc (Nat.le_refl _) _⟩
theorem oH(s:ByteArray)(w:World)(h:s.size<4):
  Calls Tryz.prog 130 #[.string s] w fun e w'=>e=.returned (.agg #[.string ⟨#[]⟩,J Z 0,J Z 4])∧Below w.heap.size w w':=by
 go_enter Tryz.func130,Tryz.ntmps130;go_wp2;exact bodyPost_ret (v:=.agg #[.string ⟨#[]⟩,J Z 0,J Z 4]) (by simp[results,Tryz.results130,go_sem]) rfl ⟨rfl,(Below.refl _ _).alloc (Nat.le_refl _) _⟩
theorem rP(s:ByteArray)(w:World)(hs:s.size≤8000)(h:4≤s.size)(hq:bF (s.extract 0 (s.size-4))≠s):
  Calls Tryz.prog 130 #[.string s] w fun e w'=>e=.returned (.agg #[.string ⟨#[]⟩,J Z 0,J Z 5])∧Below w.heap.size w w':=by
 have hb:=jE s;have h8:(s.extract 0 (s.size-4)).size≤1048576:=by omega
 have hq':=AM hq;clear hq hb;go_enter Tryz.func130,Tryz.ntmps130;go_wp2_with fail;refine(kt _ _ h8).mono ?_;rintro e w1 ⟨rfl,hb⟩;obtain⟨c0,c1,c2,f0,f1,f2,hz,hB⟩:=Cj hb;clear hb;go_wp2;exact bodyPost_ret (v:=.agg #[.string ⟨#[]⟩,J Z 0,J Z 5]) (by simp[results,Tryz.results130,go_sem,c0,c1,c2]) rfl ⟨rfl,((hB.setCell (by simp) _).setCell (by simp) _).setCell (by simp) _⟩
theorem tJ(s:ByteArray)(w:World)(hs:s.size≤8000)(h:4≤s.size)(hq:bF (s.extract 0 (s.size-4))=s):
  Calls Tryz.prog 130 #[.string s] w fun e w'=>e=.returned (.agg #[.string (s.extract 0 (s.size-4)),J Z 0,J Z 0])∧Below w.heap.size w w':=by
 have hb:=jE s;have h8:(s.extract 0 (s.size-4)).size≤1048576:=by omega
 have h9:(s.extract 0 (s.size-4)).size≤100000:=by omega
 have hq':=Gz hq;clear hq hb;go_enter Tryz.func130,Tryz.ntmps130;go_wp2_with fail;refine(kt _ _ h8).mono ?_;rintro e w1 ⟨rfl,hb⟩;go_wp2_with fail;refine(mB _ _ h9).mono ?_;rintro e w2 ⟨rfl,hb2⟩;obtain⟨c0,c1,c2,f0,f1,f2,hz,hB⟩:=Cj (hb.trans (hb2.mono hb.size));clear hb hb2;go_wp2;exact bodyPost_ret (v:=.agg #[.string (s.extract 0 (s.size-4)),J Z 0,J Z 0]) (by simp[results,Tryz.results130,go_sem,c0,c1,c2]) rfl ⟨rfl,((hB.setCell (by simp) _).setCell (by simp) _).setCell (by simp) _⟩
end
section
open Go.RowKit
def unC(s:ByteArray):Int:=if 8000<s.size then 2 else if s.size<4 then 4 else if bF (s.extract 0 (s.size-4))=s then 0 else 5
def unT(s:ByteArray):ByteArray:=if unC s=0 then s.extract 0 (s.size-4) else ⟨#[]⟩
variable {s:ByteArray} {b:Nat} {w w':World}
theorem zz(h:unC s=0):s.size≤8000∧4≤s.size∧bF (s.extract 0 (s.size-4))=s:=by
 unfold unC at h;split at h
 ·cases h
 ·split at h
  ·cases h
  ·split at h
   ·rename_i h1 h2 h3
    exact⟨by omega,by omega,h3⟩
   ·cases h
theorem Bh(s:ByteArray)(w:World)(hs:s.size≤1048576):
  Calls Tryz.prog 130 #[.string s] w fun e w'=>e=.returned (.agg #[.string (unT s),.int .i64 0,.int .i64 (unC s)])∧Below w.heap.size w w':=by
 by_cases h1:8000<s.size
 ·have e:unC s=2:=by unfold unC;rw[if_pos h1]
  have e2:unT s=⟨#[]⟩:=by unfold unT;rw[e];rfl
  rw[e,e2];exact tK s w hs h1
 ·by_cases h2:s.size<4
  ·have e:unC s=4:=by unfold unC;rw[if_neg h1,if_pos h2]
   have e2:unT s=⟨#[]⟩:=by unfold unT;rw[e];rfl
   rw[e,e2];exact oH s w h2
  ·by_cases h3:bF (s.extract 0 (s.size-4))=s
   ·have e:unC s=0:=by unfold unC;rw[if_neg h1,if_neg h2,if_pos h3]
    have e2:unT s=s.extract 0 (s.size-4):=by unfold unT;rw[if_pos e]
    rw[e,e2];exact tJ s w (by omega) (by omega) h3
   ·have e:unC s=5:=by unfold unC;rw[if_neg h1,if_neg h2,if_neg h3]
    have e2:unT s=⟨#[]⟩:=by unfold unT;rw[e];rfl
    rw[e,e2];exact rP s w (by omega) (by omega) h3
theorem sR(s:ByteArray)(w:World)(hs:s.size≤1048576):
  Calls Tryz.prog 84 #[.string s] w fun e w'=>e=.returned (.agg #[.string (unT s),.int .i64 0,.int .i64 (unC s)])∧Below w.heap.size w w':=by
 by_cases h1:8000<s.size
 ·have e:unC s=2:=by unfold unC;rw[if_pos h1]
  have e2:unT s=⟨#[]⟩:=by unfold unT;rw[e];rfl
  rw[e,e2];exact ua s w hs h1
 ·by_cases h2:s.size<4
  ·have e:unC s=4:=by unfold unC;rw[if_neg h1,if_pos h2]
   have e2:unT s=⟨#[]⟩:=by unfold unT;rw[e];rfl
   rw[e,e2];exact pe s w h2
  ·by_cases h3:bF (s.extract 0 (s.size-4))=s
   ·have e:unC s=0:=by unfold unC;rw[if_neg h1,if_neg h2,if_pos h3]
    have e2:unT s=s.extract 0 (s.size-4):=by unfold unT;rw[if_pos e]
    rw[e,e2];exact tZ s w (by omega) (by omega) ((yU s (by omega) (by omega)).1 h3)
   ·have e:unC s=5:=by unfold unC;rw[if_neg h1,if_neg h2,if_neg h3]
    have e2:unT s=⟨#[]⟩:=by unfold unT;rw[e];rfl
    rw[e,e2];exact sS s w (by omega) (by omega) (fun h=>h3 ((yU s (by omega) (by omega)).2 h))
theorem tm(h:unC s=0):(unT s).size≤8000∧(unT s).size+4=s.size:=by
 have:=zz h;unfold unT;rw[if_pos h];simp;omega
def oo(w:World)(b:Nat)(v:Value)(c:Int):Prop:=w.cell? ⟨b,0,none⟩=some v∧w.cell? ⟨b,1,none⟩=some (.int .i64 c)
theorem oo.kept{v:Value}{c:Int}(h:oo w b v c)(hB:Below w.heap.size w w'):oo w' b v c:=by
 have hb:=World.block_lt_of_cell? w _ h.1;exact⟨by rw[hB.cell (p:=⟨b,0,none⟩) hb];exact h.1,by rw[hB.cell (p:=⟨b,1,none⟩) hb];exact h.2⟩
def uj(w:World)(b:Nat):Prop:=w.frozen? ⟨b,0,none⟩=false∧w.frozen? ⟨b,1,none⟩=false
theorem uj.kept(h:uj w b)(hb:b<w.heap.size)(hB:Below w.heap.size w w'):uj w' b:=
 ⟨by rw[hB.frozen (p:=⟨b,0,none⟩) hb];exact h.1,by rw[hB.frozen (p:=⟨b,1,none⟩) hb];exact h.2⟩
end
section
open Go.RowKit
def fJ(n:Int):Nat:=if n<0 then (-2*n-1).toNat else (2*n).toNat
theorem BK(n:Int)(h0:-9223372036854775808≤n)(h1:n≤9223372036854775807):fJ n≤18446744073709551615:=by
 unfold fJ;split<;>omega
def enc:Nat→Nat→List Nat
 | 0,u=>[u]
 | k+1,u=>if u<128 then [u] else (u % 128+128) :: enc k (u / 128)
def lim:Nat→Nat
 | 0=>18446744073709551615
 | k+1=>lim k / 128
theorem lim9:lim 9=1:=by decide
theorem ys{u k:Nat}(h:u≤lim k):u / 128≤lim (k+1):=Nat.div_le_div_right h
theorem Fg(k:Nat):lim k≤18446744073709551615:=by
 induction k with
 | zero=>exact Nat.le_refl _
 | succ k ih=>exact Nat.le_trans (Nat.div_le_self _ _) ih
theorem jG(k u:Nat)(h:u<128):enc k u=[u]:=by cases k<;>simp[enc,h]
theorem rm(k u:Nat)(h:¬u<128):enc (k+1) u=(u % 128+128) :: enc k (u / 128):=by rw[enc,if_neg h]
def aS(n:Int):ByteArray:=strOfNums ((enc 9 (fJ n)).map fun b:Nat=>(b:Int))
theorem zU(k u:Nat):1≤(enc k u).length∧(enc k u).length≤k+1:=by
 induction k generalizing u with
 | zero=>simp[enc]
 | succ k ih=>
  unfold enc;split
  ·simp
  ·have:=ih (u / 128);simp;omega
theorem aX(n:Int):1≤(aS n).size∧(aS n).size≤10:=by
 have:=zU 9 (fJ n);simp only[aS,strOfNums_size,List.length_map];omega
theorem Kg(u:Nat):bits .or .u8 ((u:Int) % 256) 128=((u % 128+128:Nat):Int):=by
 have h:=u8_or_nat (u % 256) 128 (by omega) (by omega);have e:((u % 256:Nat):Int)=(u:Int) % 256:=by omega
 rw[e]at h
 have h2:u % 256 ||| 128=u % 128+128:=by
  apply Nat.eq_of_testBit_eq;intro i;rw[Nat.testBit_or];have a1:(u % 128+128).testBit i=(2 ^ 7*1+u % 2 ^ 7).testBit i:=by rw[Nat.add_comm]
  have a2:(u % 256).testBit i=(u % 2 ^ 8).testBit i:=rfl
  have a3:(128:Nat).testBit i=decide (i=7):=by
   have:=Nat.testBit_two_pow (n:=7) (m:=i);simpa[eq_comm] using this
  rw[a1,a2,a3,Nat.testBit_two_pow_mul_add _ (Nat.mod_lt _ (by omega)),Nat.testBit_mod_two_pow,Nat.testBit_mod_two_pow];by_cases h7:i<7
  ·simp[h7,show i<8 by omega,show ¬i=7 by omega]
  ·by_cases h8:i=7
   ·subst h8;simp
   ·have:¬i<8:=by omega
    simp[h7,h8,this];have h1:1≤i-7:=by omega
    have:Nat.testBit 1 (i-7)=false:=by
     rw[show (1:Nat)=2 ^ 0 by rfl,Nat.testBit_two_pow];simp;omega
    exact this
 rw[h2]at h;exact h
theorem Hl(n:Int)(h0:-9223372036854775808≤n)(h1:n<0):
  bits .xor .u64 IntKind.u64.max (IntKind.u64.wrap (IntKind.u64.wrap n*2))=(fJ n:Nat):=by
 have hw:∀m:Int,IntKind.u64.wrap m=m % 18446744073709551616:=fun m=>by simp[IntKind.wrap,IntKind.bits,IntKind.signed]
 have hm:IntKind.u64.max=18446744073709551615:=by decide
 have hx:IntKind.u64.wrap (IntKind.u64.wrap n*2)=((2*n+18446744073709551616).toNat:Nat):=by rw[hw,hw];omega
 have hb:(2*n+18446744073709551616).toNat<18446744073709551616:=by omega
 have hf:fJ n=18446744073709551615-(2*n+18446744073709551616).toNat:=by unfold fJ;rw[if_pos h1];omega
 rw[hm,hx,hf];generalize (2*n+18446744073709551616).toNat=x at *;have h:=u64_xor_nat 18446744073709551615 x (by omega) hb;refine Eq.trans h ?_;congr 1
 have hv:(BitVec.allOnes 64 ^^^ BitVec.ofNat 64 x).toNat=18446744073709551615-x:=by
  rw[BitVec.allOnes_xor,BitVec.toNat_not,BitVec.toNat_ofNat,Nat.mod_eq_of_lt (by simpa using hb)]
 rw[BitVec.toNat_xor,BitVec.toNat_allOnes,BitVec.toNat_ofNat,Nat.mod_eq_of_lt (by simpa using hb)]at hv;simpa using hv
theorem xd(n:Int)(w:World)(h0:-9223372036854775808≤n)(h1:n≤9223372036854775807):
  Calls Tryz.prog 125 #[.int .i64 n] w fun e w'=>e=.returned (.int .u64 (fJ n:Nat))∧w'=w:=by
 by_cases h:n<0
 ·have HF:=yz (show ((fJ n:Nat):Int)=2 * -(n+1)+1 by unfold fJ;rw[if_pos h];omega);go_enter Tryz.func125,Tryz.ntmps125;go_wp2;go_ret;exact⟨by rw[yx HF];rfl,rfl⟩
 ·have HF:=yz (show ((fJ n:Nat):Int)=2*n by unfold fJ;rw[if_neg h];omega);have hn:0≤n:=by omega
  go_enter Tryz.func125,Tryz.ntmps125;go_wp2;go_ret;exact⟨by rw[yx HF];rfl,rfl⟩
theorem vZ(n:Int)(w:World)(h0:-9223372036854775808≤n)(h1:n≤9223372036854775807):
  Calls Tryz.prog 174 #[.int .i64 n] w fun e w'=>e=.returned (.int .u64 (fJ n:Nat))∧w'=w:=by
 by_cases h:n<0
 ·have HF:=yz (Hl n h0 h);go_enter Tryz.func174,Tryz.ntmps174;go_wp2;go_ret;exact⟨by rw[←yx HF];rfl,rfl⟩
 ·have HF:=yz (show ((fJ n:Nat):Int)=n*2 by unfold fJ;rw[if_neg h];omega);have hn:0≤n:=by omega
  go_enter Tryz.func174,Tryz.ntmps174;go_wp2;go_ret;exact⟨by rw[yx HF];rfl,rfl⟩
theorem Gj(B k:Nat)(hk:k≤9)(W:World):(Instr.sliceAt 232 (.pointer (some ⟨B,0,none⟩)) none (some (.int .i64 ((k:Int)+1))) none).run Tryz.prog W=.ok (.slice (some ⟨B,0,none⟩) (k+1) 10) W:=by
 have hl:Tryz.prog.arrayLen 232=10:=by kernel_rfl
 have hu:Tryz.prog.underlying 232=some (.array (Tryz.prog.arrayLen 232) (Tryz.prog.elem 232)):=by kernel_rfl
 have hs:(Go.sizeOf (Tryz.prog.elem 232)).run Tryz.prog W=.ok 1 W:=by kernel_rfl
 rw[run_sliceAt_array_h W 232 ⟨B,0,none⟩ hu .i64 ((k:Int)+1) (by omega) (by rw[hl];omega),hs,hl];simp[Result.andThen,slicedAt,Addr.add]
theorem EF(w:World)(T:TypeId)(Y:Array Value)(xs:List Int)(n cap:Nat)(hn:xs.length=n)(hY:Y.toList.take n=xs.map (Value.int .u8)):
  (convert 176 9 (.slice (some ⟨w.heap.size,0,none⟩) n cap)).run Tryz.prog (w.alloc (.cells Y T))=.ok (.string (strOfNums xs)) (w.alloc (.cells Y T)):=by
 refine run_convert_bytes_arg (P:=Tryz.prog) _ 176 5 Tryz.underlying176 Tryz.underlying5 w.heap.size 0 n cap xs hn ?_ 9 Tryz.underlying9;intro i hi
 have hl:Y[i]? = some (.int .u8 (xs.getD i 0)):=by
  have h1:(Y.toList.take n)[i]? = some (.int .u8 (xs.getD i 0)):=by
   rw[hY,List.getElem?_map,List.getD,List.getElem?_eq_getElem (by omega)];rfl
  rw[List.getElem?_take_of_lt hi,Array.getElem?_toList]at h1;exact h1
 simp[hl]
theorem zs(C:Array Value)(k:Nat)(v:Value)(h:k<C.size):(C.setIfInBounds k v).toList.take (k+1)=C.toList.take k ++ [v]:=by
 rw[Array.toList_setIfInBounds,List.take_add_one,List.take_set_of_le (Nat.le_refl _)];simp[h]
theorem rO(n:Int)(w:World)(h0:-9223372036854775808≤n)(h1:n≤9223372036854775807):
  Calls Tryz.prog 136 #[.int .i64 n] w fun e w'=>e=.returned (.string (aS n))∧Below w.heap.size w w':=by
 have hf:=BK n h0 h1;go_enter Tryz.func136,Tryz.ntmps136;go_wp2_with (go_at_call 174;refine(vZ _ _ h0 h1).mono ?_;rintro e w' ⟨rfl,rfl⟩)
 go_loopw [4,5] (fun t i wr=>∃(k u:Nat) (pre:List Nat) (C:Array Value),k≤9∧i=.int .i64 k∧t=.int .u64 u∧u≤lim k∧pre.length=k∧pre ++ enc (9-k) u=enc 9 (fJ n) ∧
   C.size=10∧C.toList.take k=pre.map (fun b:Nat=>Value.int .u8 (b:Int))∧wr=w.alloc (.cells C 232)) (fun _ i _=>9-(intOf i).toNat)
 case atStart=>exact⟨0,fJ n,[],_,by omega,rfl,rfl,hf,rfl,rfl,rfl,rfl,rfl⟩
 case round=>
  obtain⟨k,u,pre,C,hk,rfl,rfl,hu,hp,he,hC,ht,rfl⟩:=hrel;have hul:(u:Int)≤18446744073709551615:=by have:=Nat.le_trans hu (Fg k);omega
  by_cases hlt:u<128
  ·have HE:=yz he;have HT:=yz ht;have HP:=yz hp;clear he ht hp hu hf;obtain⟨c,hc⟩:∃c,C[k]? = some c:=⟨C[k]'(by omega),by simp[show k<C.size by omega]⟩
   have hsl:=Gj w.heap.size k hk;have hcv:=EF w 232 (C.setIfInBounds k (.int .u8 (u:Int))) ((enc 9 (fJ n)).map fun b:Nat=>(b:Int)) (k+1) 10 (by rw[←yx HE,jG _ _ hlt];simp[yx HP]) (by rw[zs _ _ _ (by omega),yx HT,←yx HE,jG _ _ hlt];simp);have HS:=yz (show strOfNums ((enc 9 (fJ n)).map fun b:Nat=>(b:Int))=aS n from rfl);generalize strOfNums ((enc 9 (fJ n)).map fun b:Nat=>(b:Int))=S at *;go_wp2;go_ret;exact⟨by rw[←yx HS];rfl,(Below.refl _ _).alloc (Nat.le_refl _) _⟩
  ·have hk9:k<9:=by
    rcases Nat.lt_or_ge k 9 with h | h
    ·exact h
    ·obtain rfl:k=9:=by omega
     rw[lim9]at hu;omega
   have HU:=yz (ys hu);have HE:=yz he;have HT:=yz ht;have HP:=yz hp;have HO:=yz (Kg u);clear he ht hp hu hf;obtain⟨c,hc⟩:∃c,C[k]? = some c:=⟨C[k]'(by omega),by simp[show k<C.size by omega]⟩
   have HN:=yz (show (pre ++ [u % 128+128]) ++ enc (9-(k+1)) (u / 128)=enc 9 (fJ n) by rw[←yx HE,show 9-k=(9-(k+1))+1 by omega,rm _ _ hlt];simp);have HK:=yz (show (C.setIfInBounds k (.int .u8 ((u % 128+128:Nat):Int))).toList.take (k+1)=(pre ++ [u % 128+128]).map (fun b:Nat=>Value.int .u8 (b:Int)) by rw[zs _ _ _ (by omega),yx HT];simp);go_wp2;go_roundw
   case rel=>exact⟨k+1,u / 128,pre ++ [u % 128+128],C.setIfInBounds k (.int .u8 ((u % 128+128:Nat):Int)),by omega,by go_num,by go_num,yx HU,by simp[yx HP],yx HN,by simp[hC],yx HK,by rw[yx HO]⟩
   case measure=>simp[intOf];omega
theorem JX:(Tryz.prog.info? 5).map (fun i=>(i.zero,i.size,i.bytes))=some (some (.int .u8 0),1,1):=by kernel_rfl
variable {base:Nat} {w:World}
theorem DK{size n:Nat}{e:TypeId}{v:Value}{xs:List Value}(h:w.ownsRow base e size v n xs)(hn:0<n):∃g cap,v=.slice (some ⟨g,0,none⟩) n cap:=by
 rcases h.2 with ⟨_,h0⟩ | ⟨g,cap,_,hv,_⟩
 ·omega
 ·exact⟨g,cap,hv⟩
theorem CG{g n cap:Nat}{xs:List Int}(h:w.ownsRow base 5 1 (.slice (some ⟨g,0,none⟩) n cap) n (xs.map (Value.int .u8))):
  (convert 176 9 (.slice (some ⟨g,0,none⟩) n cap)).run Tryz.prog w=.ok (.string (strOfNums xs)) w:=by
 have hl:xs.length=n:=by have:=h.1;simpa using this
 refine run_convert_bytes_arg (P:=Tryz.prog) _ 176 5 Tryz.underlying176 Tryz.underlying5 g 0 n cap xs hl ?_ 9 Tryz.underlying9;intro i hi;rw[Nat.zero_add,h.cellAt i (by omega),List.getElem?_map,List.getD,List.getElem?_eq_getElem (by omega)];rfl
theorem aJ(n:Int)(w:World)(h0:-9223372036854775808≤n)(h1:n≤9223372036854775807):
  Calls Tryz.prog 91 #[.int .i64 n] w fun e w'=>e=.returned (.string (aS n))∧Below w.heap.size w w':=by
 have hf:=BK n h0 h1;obtain⟨i0,hi,hz0,hz1,hz2⟩:=info_parts JX;go_enter Tryz.func91,Tryz.ntmps91;go_wp2_with (go_at_call 125;refine(xd _ _ h0 h1).mono ?_;rintro e w' ⟨rfl,hw⟩;obtain rfl:=hw.symm)
 go_loopw [3,4] (fun t v wr=>∃(k u:Nat) (pre:List Nat),k≤9∧t=.int .u64 u∧u≤lim k∧pre.length=k∧pre ++ enc (9-k) u=enc 9 (fJ n) ∧
   wr.ownsRow w.heap.size 5 1 v k ((pre.map fun b:Nat=>(b:Int)).map (Value.int .u8))∧Below w.heap.size w wr) (fun t _ _=>(intOf t).toNat)
 case atStart=>exact⟨0,fJ n,[],by omega,rfl,hf,rfl,rfl,World.ownsRow_lit w #[] 0 (Nat.le_refl _) (by simp[maxLen]) rfl,(Below.refl _ _).alloc (Nat.le_refl _) _⟩
 case round=>
  obtain⟨k,u,pre,hk,rfl,hu,hp,he,hown,hB⟩:=hrel;have hul:(u:Int)≤18446744073709551615:=by have:=Nat.le_trans hu (Fg k);omega
  have hsz:=hB.size;by_cases hlt:u<128
  ·have HE:=yz he;have HP:=yz hp;clear he hp hu hf;go_wp2_with (at_builtin;refine wpList_append_own _ rfl _ _ 176 rfl w.heap.size 5 i0 (.int .u8 0) 1 1 Tryz.underlying176 hi hz0 hz1 hz2 rfl (by decide) _ _ _ rfl (hown.alloc _) ⟨wr.heap.size,0,none⟩ 1 1 [.int .u8 (u:Int)] rfl rfl ?c1 ?c2 ?c3 ?c4 ?c5 ?_)
   case c1=>
    intro j x hj
    match j,hj with
    | 0,hj=>simp at hj;subst hj;simp[Addr.add]
   case c2=>intro x hx;simp at hx;subst hx;rfl
   case c3=>unfold maxLen;omega
   case c4=>omega
   case c5=>simp;omega
   intro v' w1 hown' hgrow _;have hB1:Below w.heap.size w w1:=(hB.alloc hsz _).grown hgrow (by simp;omega) (fun j hj=>(hown.lt j hj).1);have hx:List.map (Value.int IntKind.u8 ∘ fun b:Nat=>(b:Int)) pre ++ [Value.int IntKind.u8 (u:Int)]=((enc 9 (fJ n)).map fun b:Nat=>(b:Int)).map (Value.int .u8):=by rw[←yx HE,jG _ _ hlt];simp
   rw[hx]at hown';obtain⟨g,cap,hv⟩:=DK hown' (by omega);rw[hv]at hown' ⊢;have hcv:=CG hown';have HS:=yz (show strOfNums ((enc 9 (fJ n)).map fun b:Nat=>(b:Int))=aS n from rfl);generalize strOfNums ((enc 9 (fJ n)).map fun b:Nat=>(b:Int))=S at *;clear hx hown hown' hgrow hB hi hz0 hz1 hz2 hv;go_wp2;go_ret;exact⟨by rw[←yx HS];rfl,hB1⟩
  ·have hk9:k<9:=by
    rcases Nat.lt_or_ge k 9 with h | h
    ·exact h
    ·obtain rfl:k=9:=by omega
     rw[lim9]at hu;omega
   have HU:=yz (ys hu);have HE:=yz he;have HP:=yz hp;clear he hp hu hf;go_wp2_with (at_builtin;refine wpList_append_own _ rfl _ _ 176 rfl w.heap.size 5 i0 (.int .u8 0) 1 1 Tryz.underlying176 hi hz0 hz1 hz2 rfl (by decide) _ _ _ rfl (hown.alloc _) ⟨wr.heap.size,0,none⟩ 1 1 [.int .u8 ((u:Int) % 128+128)] rfl rfl ?c1 ?c2 ?c3 ?c4 ?c5 ?_)
   case c1=>
    intro j x hj
    match j,hj with
    | 0,hj=>simp at hj;subst hj;simp[Addr.add]
   case c2=>intro x hx;simp at hx;subst hx;rfl
   case c3=>unfold maxLen;omega
   case c4=>omega
   case c5=>simp;omega
   intro v' w1 hown' hgrow _;have hB1:Below w.heap.size w w1:=(hB.alloc hsz _).grown hgrow (by simp;omega) (fun j hj=>(hown.lt j hj).1);have hx:List.map (Value.int IntKind.u8 ∘ fun b:Nat=>(b:Int)) pre ++ [Value.int IntKind.u8 ((u:Int) % 128+128)]=((pre ++ [u % 128+128]).map fun b:Nat=>(b:Int)).map (Value.int .u8):=by simp
   rw[hx]at hown';have HN:=yz (show (pre ++ [u % 128+128]) ++ enc (9-(k+1)) (u / 128)=enc 9 (fJ n) by rw[←yx HE,show 9-k=(9-(k+1))+1 by omega,rm _ _ hlt];simp);have HO:=yz hown';clear hx hown hown' hgrow hB;go_wp2;go_roundw
   case rel=>exact⟨k+1,u / 128,pre ++ [u % 128+128],by omega,by go_num,yx HU,by simp[yx HP],yx HN,yx HO,hB1⟩
   case measure=>simp[intOf];omega
end
section
open Go.RowKit Go.Sort
def zd(s:St):ByteArray:=aS s.1 ++ aS s.2.1 ++ aS s.2.2.1 ++ aS s.2.2.2
end
section
open Go.RowKit
def ja(t:ByteArray):ByteArray:=if 8000<t.size then ⟨#[]⟩ else aS (t.size:Int) ++ t
theorem qw(t:ByteArray)(w:World)(hs:t.size≤1048576):
  Calls Tryz.prog 124 #[.string t] w fun e w'=>e=.returned (.string (ja t))∧Below w.heap.size w w':=by
 by_cases h1:8000<t.size
 ·have HS:=yz (show ja t=⟨#[]⟩ by simp[ja,h1]);go_enter Tryz.func124,Tryz.ntmps124;go_wp2;go_ret;exact⟨by rw[yx HS];rfl,Below.refl _ _⟩
 ·have HS:=yz (show ja t=aS (t.size:Int) ++ t by simp[ja,h1]);have hn:=aX (t.size:Int);go_enter Tryz.func124,Tryz.ntmps124;go_wp2_with fail;refine(aJ _ _ (by omega) (by omega)).mono ?_;rintro e w1 ⟨rfl,hb⟩;go_wp2;go_ret;exact⟨by rw[yx HS];rfl,hb⟩
end
end Go.Proofs.YteoonaanoenjiaaGreatDoor
