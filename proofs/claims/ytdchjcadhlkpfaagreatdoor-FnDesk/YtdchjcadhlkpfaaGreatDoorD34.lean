/- Several texts in one: ModN, TkM, LwT. -/
import Derived.Test.YtdchjcadhlkpfaaGreatDoorD32
namespace Go.Proofs.YtdchjcadhlkpfaaGreatDoor
set_option linter.unusedVariables false
set_option linter.unusedSimpArgs false
set_option maxRecDepth 100000
set_option maxHeartbeats 8000000
section
open Go.RowKit Go.Sort
variable {cap:Nat} {w w':World}
theorem mM.row{b n:Nat}{L:List St}(h:mM w b n L n):vV w (some ⟨b,0,none⟩) n (some b):=by
 obtain⟨cur,hc,hn,hs⟩:=h;refine .inr ⟨b,fun j=>match j % 4 with | 0=>(stA L (j / 4)).1 | 1=>(stA L (j / 4)).2.1 | 2=>(stA L (j / 4)).2.2.1 | _=>(stA L (j / 4)).2.2.2,rfl,rfl,cur,hc,fun j hj=>?_⟩;obtain⟨h0,h1,h2,h3⟩:=hs (j / 4) (by omega);have h4:j % 4=0∨j % 4=1∨j % 4=2∨j % 4=3:=by omega
 rcases h4 with h4 | h4 | h4 | h4
 ·dsimp only;rw[h4];rw[show j / 4*4=j by omega]at h0;exact h0
 ·dsimp only;rw[h4];rw[show j / 4*4+1=j by omega]at h1;exact h1
 ·dsimp only;rw[h4];rw[show j / 4*4+2=j by omega]at h2;exact h2
 ·dsimp only;rw[h4];rw[show j / 4*4+3=j by omega]at h3;exact h3
theorem aC.grown{B:Nat}{L:List St}{a:Option Addr}{row:Option Nat}(h:aC w B L a cap)(hg:w.grownBy w' row)(hne:∀g,row=some g→g<B):aC w' B L a cap:=by
 obtain⟨h1,h2⟩:=h;refine⟨h1,?_⟩;rcases h2 with h2 | ⟨g,c',cur,e,hb,hh,r⟩
 ·exact .inl h2
 ·exact .inr ⟨g,c',cur,e,hb,by rw[hg.block g (Array.getElem?_eq_some_iff.1 hh).1 (fun e=>by have:=hne g e.symm;omega)];exact hh,r⟩
theorem aZ.grown{a:Option Addr}{L:List St}{n:Nat}{row:Option Nat}(h:aZ w a L n)(hg:w.grownBy w' row)(hne:∀x g,a=some x→row=some g→x.block≠g):aZ w' a L n:=by
 rcases h with h | ⟨b,o,rfl,hb,hc⟩
 ·exact .inl h
 ·refine .inr ⟨b,o,rfl,Nat.lt_of_lt_of_le hb hg.size,fun i hi=>?_⟩;have e:w'.heap[b]? = w.heap[b]?:=hg.block b hb (fun e=>hne _ b rfl e.symm rfl);obtain⟨c0,c1,c2,c3⟩:=hc i hi;exact⟨(World.cell?_of_block (a:=⟨b,_,none⟩) e).trans c0,(World.cell?_of_block (a:=⟨b,_,none⟩) e).trans c1,(World.cell?_of_block (a:=⟨b,_,none⟩) e).trans c2,(World.cell?_of_block (a:=⟨b,_,none⟩) e).trans c3⟩
theorem aC.block{B:Nat}{L:List St}{a:Option Addr}(h:aC w B L a cap)(x:Addr)(e:a=some x):B≤x.block∧x.block<w.heap.size:=by
 rcases h.2 with ⟨h1,_⟩ | ⟨g,c',cur,e',hb,hh,r⟩
 ·injection h1 with h1;rw[h1]at e;cases e
 ·injection e' with e1;rw[e1]at e;cases e;exact⟨hb,(Array.getElem?_eq_some_iff.1 hh).1⟩
end
section
open Go.RowKit
theorem qZ{t:Tk}(h:aH t=true):aH (qY t)=true:=by
 unfold aH at h ⊢;rw[Bool.and_eq_true]at h ⊢;exact⟨h.1,rfl⟩
theorem qs{a b c d e f g i:Int}(h:coK a b c d e f g i=0):aD a b c d=true∧aD (mV a b c d e f g i) (mW a b c d e f g i) (mX a b c d e f g i) (mY a b c d e f g i)=true:=by
 unfold coK at h;split at h
 ·rename_i hr
  have hr':aD a b c d=true:=by unfold coR at hr;rw[Bool.and_eq_true]at hr;exact hr.1
  refine⟨hr',?_⟩;have:=(Bx h).2.2;unfold mV mW mX mY coP ofP;simp only[if_pos hr,if_pos h];exact this
 ·cases h
theorem vO{t:Tk}(h:aH t=true)(a b c d:Int):aH (ch t a b c d)=true:=by
 unfold ch;split
 ·exact h
 ·rename_i h0
  split
  ·rename_i hk
   have hr:=(qs hk).2;have hm:=ko h;unfold aH at h ⊢;rw[Bool.and_eq_true]at h ⊢;refine⟨h.1,?_⟩;by_cases h1:t.mode=1
   ·rw[kU h1,Bool.and_eq_true]at hm;rw[kU (by exact h1),Bool.and_eq_true];exact⟨hr,hm.2⟩
   ·by_cases h2:t.mode=2
    ·rw[ms h2,Bool.and_eq_true]at hm;rw[ms (by exact h2),Bool.and_eq_true];exact⟨hr,hm.2⟩
    ·rw[oF h0 h1 h2]at hm;cases hm
  ·exact qZ h
theorem wD{L:List St}{S:List D3}(h:(bh L S).2=0):aD (bh L S).1.1 (bh L S).1.2.1 (bh L S).1.2.2.1 (bh L S).1.2.2.2=true:=by
 unfold bh at h ⊢;split at h
 ·rename_i hk
  rw[if_pos hk];unfold jw at h ⊢;split at h
  ·cases h
  ·rename_i h4
   rw[if_neg h4];split at h
   ·rename_i h5
    rw[if_pos h5];split at h
    ·cases h
    ·rename_i h6
     rw[if_neg h6];unfold fF at h ⊢;split at h
     ·rename_i t ht
      have hm:=List.mem_of_find?_eq_some ht;obtain⟨k,hk,e⟩:=List.getElem_of_mem hm;have:=la hk;have e2:tA (aB 625) k=t:=by unfold tA;rw[List.getD_eq_getElem?_getD,List.getElem?_eq_getElem hk,e];rfl
      rw[e2]at this;exact this
     ·cases h
   ·cases h
 ·rename_i hk
  exact absurd h hk
theorem wE{t:Tk}(h:aH t=true)(hf:t.fr≠1000000):nj { t with fr:=t.fr+1 } = true:=by
 have h2:=Ei h;unfold aH nj at h;simp only[Bool.and_eq_true]at h;unfold nj;simp only[Bool.and_eq_true];exact⟨h.1.1,nP (by show 0≤t.fr+1;omega) (by show t.fr+1≤1000000;omega)⟩
theorem yX{t:Tk}(h:aH t=true)(S:List D3)(hf:t.fr≠1000000):aH (dO t S)=true:=by
 have hd:=wE h hf;have hm:=ko h;unfold dO;split
 ·rename_i h1
  have hr:=mH h h1.1;unfold aH;rw[Bool.and_eq_true];refine⟨hd,?_⟩;rw[kU rfl,Bool.and_eq_true];exact⟨hr,rfl⟩
 ·split
  ·rename_i h2
   unfold aH;rw[Bool.and_eq_true];refine⟨hd,?_⟩;rw[kU rfl,Bool.and_eq_true];exact⟨wD h2,rfl⟩
  ·unfold bt;split
   ·unfold aH;rw[Bool.and_eq_true];exact⟨hd,hm⟩
   ·rename_i h0
    split
    ·unfold aH;rw[Bool.and_eq_true];exact⟨hd,rfl⟩
    ·rename_i hl
     have hr:=mH h h0
     have hc:0≤t.coast:=by
      by_cases h1:t.mode=1
      ·rw[kU h1,Bool.and_eq_true]at hm;have:=of_decide_eq_true hm.2;omega
      ·by_cases h2:t.mode=2
       ·rw[ms h2,Bool.and_eq_true]at hm;have:=(nO.1 hm.2).1;omega
       ·have h0':t.mode≠0:=h0;rw[oF h0' h1 h2]at hm;cases hm
     unfold aH;rw[Bool.and_eq_true];refine⟨hd,?_⟩;rw[ms rfl,Bool.and_eq_true];exact⟨hr,nP (by show 1≤t.coast+1;omega) (by show t.coast+1≤t.lim;have:¬t.lim<t.coast+1:=hl;omega)⟩
end
section
open Go.RowKit
theorem Dm(a:Option Addr)(len cap:Nat)(i:Nat)(most:Int)(w:World)(hl:len≤1048576)(hi:i≤1000)(hm:most≤9223372036854775807)(hR:Row w a len w.heap.size):
  Calls Tryz.prog 10 #[.slice a len cap,.int .i64 (i:Int),.int .i64 most] w fun e w'=>∃k:Int,e=.returned (.int .i64 k)∧0≤k∧(1<most→k<most)∧(most≤1→k=0)∧w'=w:=by
 by_cases h1:most≤1
 ·clear hR;go_enter Tryz.func10,Tryz.ntmps10;go_wp2;go_ret;exact⟨0,rfl,Int.le_refl _,by omega,fun _=>rfl,rfl⟩
 ·have hm1:1<most:=by omega
  rcases hR with rfl | ⟨bx,ox,rfl,hb,hz⟩
  ·go_enter Tryz.func10,Tryz.ntmps10;go_wp2;go_ret;exact⟨0,rfl,Int.le_refl _,by omega,fun _=>rfl,rfl⟩
  ·by_cases h0:len=0
   ·subst h0;clear hz;go_enter Tryz.func10,Tryz.ntmps10;go_wp2;go_ret;exact⟨0,rfl,Int.le_refl _,by omega,fun _=>rfl,rfl⟩
   ·obtain⟨z,cz,z0,z1⟩:=hz (i % len) (Nat.mod_lt _ (by omega));have hlz:((len:Int)==0)=false:=by simp;omega
    have hlp:(0:Int)<(len:Int):=by omega
    obtain⟨j,hj⟩:∃j:Nat,(i:Int) % (len:Int)=(j:Int):=⟨i % len,by simp⟩
    have hj2:i % len=j:=by omega
    rw[hj2]at cz;have hjl:(j:Int)<(len:Int):=by have:=Nat.mod_lt i (show 0<len by omega);omega
    clear hz h0 hj2;go_enter Tryz.func10,Tryz.ntmps10;go_wp2;go_ret;have e0:0≤z % most:=Int.emod_nonneg _ (by omega);have e1:z % most<most:=Int.emod_lt_of_pos _ (by omega);exact⟨z % most,rfl,e0,by first | exact e1 | exact fun _=>e1,by intro h;omega,rfl⟩
end
end Go.Proofs.YtdchjcadhlkpfaaGreatDoor
