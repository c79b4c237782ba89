/- Several texts in one: MaB, StrS. -/
import Derived.Test.YteoonaanoenjiaaGreatDoorL17
import Derived.Test.YteoonaanoenjiaaGreatDoorL15
namespace Go.Proofs.YteoonaanoenjiaaGreatDoor
set_option linter.unusedVariables false
set_option linter.unusedSimpArgs false
set_option maxRecDepth 100000
set_option maxHeartbeats 8000000
section
open Go.Value renaming int → J
open Go.IntKind renaming i64 → Y
open Go.RowKit Go.Sort
def gR(xs:List Int):List Value:=xs.map (fun z=>J Y z)
variable {v:Value}
theorem uO{S:List Int}(h:v∈gR S):v.oneCell'=true:=by
 unfold gR at h;rw[List.mem_map]at h;obtain⟨p,_,rfl⟩:=h;rfl
theorem jP(w:World)(B:Nat)(h:B≤w.heap.size):(w.alloc (.cells #[] 2)).ownsRow B 2 1 (.slice (some ⟨w.heap.size,0,none⟩) 0 0) 0 (gR []):=
 ⟨rfl,.inr ⟨_,0,#[],rfl,h,Array.getElem?_push_size,Nat.le_refl _,Nat.zero_le _,rfl,rfl⟩⟩
theorem Fu{w:World}{B B' n m:Nat}{t:TypeId}{xs:List Value}(h:w.ownsRow B t m v n xs)(hb:B'≤B):w.ownsRow B' t m v n xs:=by
 obtain⟨h1,h2⟩:=h;refine⟨h1,?_⟩;rcases h2 with h2 | ⟨g,cap,cur,e,hg,r⟩
 ·exact .inl h2
 ·exact .inr ⟨g,cap,cur,e,by omega,r⟩
def fh(L:List St)(a b c d:Int)(v:D3):Nat→Nat
 | 0=>0
 | k+1=>fh L a b c d v k+if bS v (apD a b c d (stA L k).2)=true then 1 else 0
def gc(L:List St)(a b c d:Int)(S:List D3)(n:Nat):Nat→Nat
 | 0=>0
 | i+1=>gc L a b c d S n i+fh L a b c d (vA S i) n
theorem lQ(L:List St)(a b c d:Int)(v:D3):∀k,fh L a b c d v k≤k
 | 0=>Nat.le_refl _
 | k+1=>by unfold fh;have:=lQ L a b c d v k;split<;>omega
theorem uG(L:List St)(a b c d:Int)(S:List D3)(n:Nat):∀i,gc L a b c d S n i≤i*n
 | 0=>Nat.zero_le _
 | i+1=>by unfold gc;have:=uG L a b c d S n i;have:=lQ L a b c d (vA S i) n;rw[Nat.succ_mul];omega
def mf(L:List St)(a b c d:Int)(S:List D3):List Int:=S.map (fun v=>fj L a b c d v L.length)
theorem EX(L:List St)(a b c d:Int)(S:List D3)(i:Nat)(hi:i<S.length):mf L a b c d (S.take (i+1))=mf L a b c d (S.take i) ++ [fj L a b c d (vA S i) L.length]:=by
 have e:S.take (i+1)=S.take i ++ [vA S i]:=by
  rw[List.take_succ_eq_append_getElem hi];congr 2
  unfold vA;rw[List.getD_eq_getElem?_getD,List.getElem?_eq_getElem hi];rfl
 unfold mf;rw[e,List.map_append];rfl
theorem iT(p q:D3)(w:World)(hp:aM 1000000 p.1 p.2.1 p.2.2=true)(hq:aM 1000000 q.1 q.2.1 q.2.2=true):
  Calls Tryz.prog 101 #[.agg #[J Y p.1,J Y p.2.1,J Y p.2.2],.agg #[J Y q.1,J Y q.2.1,J Y q.2.2]] w fun e w'=>e=.returned (.bool (bS q p))∧Below w.heap.size w w':=by
 refine(li _ _ _ _ _ _ w).mono fun e w' h=>?_;have h2:=yR hp hq;rw[AD];unfold bS;rw[←h2];exact h
theorem lk(a b c d:Int)(v:D3)(w:World)(ht:aE a b c d=true)(hv:aN v.1 v.2.1 v.2.2=true):
  Calls Tryz.prog 176 #[.agg #[J Y a,J Y b,J Y c,J Y d],.agg #[J Y v.1,J Y v.2.1,J Y v.2.2]] w fun e w'=>e=.returned (.agg #[J Y (apD a b c d v).1,J Y (apD a b c d v).2.1,J Y (apD a b c d v).2.2])∧Below w.heap.size w w':=
 ws a b c d v.1 v.2.1 v.2.2 w (du.1 ht).1 (qT (pT hv))
theorem om{x y z:Int}(h:cy x y z=true):aM 1000000 x y z=true:=by
 have h2:=(bC.1 (fU h).1).1;rw[bj];exact h2
theorem wu(L:List St)(S:List D3)(ar br:Option Addr)(cr dr:Nat)(a b c d:Int)(w:World)(hk:bk L=true)(hr:aE a b c d=true)(hp:aL S=true)(hS:aH w ar L L.length)(hD:bi w br S S.length):
  Calls Tryz.prog 141 #[.slice ar L.length cr,.agg #[J Y a,J Y b,J Y c,J Y d],.slice br S.length dr] w fun e w'=>(∃v,e=.returned (.tuple #[v,J Y (gc L a b c d S L.length S.length:Int)])∧w'.ownsRow w.heap.size 2 1 v (mf L a b c d S).length (gR (mf L a b c d S)))∧Below w.heap.size w w':=by
 obtain⟨i0,hinf,hz0,hz1,hz2⟩:=info_parts lg;have hm8:1000≤maxLen:=by decide +kernel
 have HSM:Hid (∀j,j<L.length→aN (stA L j).2.1 (stA L j).2.2.1 (stA L j).2.2.2=true):=yz (fun j hj=>iU ((eu hk).2 j hj));have HWD:Hid (∀j,j<S.length→jY (vA S j)=true):=yz (fun j hj=>lq ((bK hp).2 j hj));have hn12:=(eu hk).1;have hm6:=(bK hp).1;have HSN:=yz (EX L a b c d S);have HRT:=yz hr;have HS:=yz hS;have HD:=yz hD;have HAL:Hid (mf L a b c d (S.take S.length)=mf L a b c d S):=yz (by rw[List.take_length]);clear hS hD hk hr hp;generalize S.length=m at *;generalize L.length=n at *;have T0:=bh w a b c d 35;have B0:=ak w (.cells #[J Y a,J Y b,J Y c,J Y d] 35);have e1:(w.alloc (.cells #[J Y a,J Y b,J Y c,J Y d] 35)).heap.size=w.heap.size+1:=by simp
 have Z:=ak (w.alloc (.cells #[J Y a,J Y b,J Y c,J Y d] 35)) (.cells #[] 2);have O0:=jP (w.alloc (.cells #[J Y a,J Y b,J Y c,J Y d] 35)) (w.heap.size+1) (by omega);rw[e1]at O0;have HT:=yz (T0.kept T0.lt Z);have HB:=yz (aj B0 Z);have HO:=yz O0;have hlow:w.heap.size+1≤((w.alloc (.cells #[J Y a,J Y b,J Y c,J Y d] 35)).alloc (.cells #[] 2)).heap.size:=by simp
 clear T0 B0 Z O0 e1;go_enter Tryz.func141,Tryz.ntmps141;go_wp2_with fail;generalize (w.alloc (.cells #[J Y a,J Y b,J Y c,J Y d] 35)).alloc (.cells #[] 2)=W0 at HT HB HO hlow ⊢;go_loopw [8,9,10] (fun v cc kk wr=>∃i:Nat,i≤m∧kk=J Y i∧cc=J Y (gc L a b c d S n i:Int)∧Hid (wr.ownsRow (w.heap.size+1) 2 1 v (mf L a b c d (S.take i)).length (gR (mf L a b c d (S.take i))))∧Hid (bd wr w.heap.size a b c d)∧Hid (Below w.heap.size w wr)∧w.heap.size+1≤wr.heap.size) (fun _ _ kk _=>m-(intOf kk).toNat)
 case atStart=>exact⟨0,by omega,rfl,rfl,HO,HT,HB,hlow⟩
 case round=>
  clear HO HT HB hlow;obtain⟨i,hi,rfl,rfl,HO,HT,HB,hlow⟩:=hrel;by_cases him:i<m
  ·have him2:(i:Int)<(m:Int):=by omega
   have hhl:=uG L a b c d S n i;have hhl2:gc L a b c d S n i≤100:=by have:=Nat.mul_le_mul (show i≤6 by omega) hn12;omega
   have hwd:=yx HWD i him;have HHI:Hid (gc L a b c d S n (i+1)=gc L a b c d S n i+fh L a b c d (vA S i) n):=yz rfl;have HSI:=yz (yx HSN i (by first | exact him | omega));rcases yx HD with h | ⟨bb,bo,rfl,hbb,hbc⟩
   ·omega
   have hst:=hbc i him;clear hbc;obtain⟨⟨v1,v2,v3⟩,hv⟩:∃v,vA S i=v:=⟨_,rfl⟩
   rw[hv]at hst HHI HSI hwd;clear hv;have HVC:=yz hst;clear hst;generalize gc L a b c d S n i=hc0 at *;go_wp2_with fail;go_loopw [9,11,12] (fun cc id kk wr=>∃k:Nat,k≤n∧kk=J Y k∧cc=J Y ((hc0+fh L a b c d (v1,v2,v3) k:Nat):Int)∧id=J Y (fj L a b c d (v1,v2,v3) k)∧Hid (wr.ownsRow (w.heap.size+1) 2 1 u8 (mf L a b c d (S.take i)).length (gR (mf L a b c d (S.take i))))∧Hid (bd wr w.heap.size a b c d)∧Hid (Below w.heap.size w wr)∧w.heap.size+1≤wr.heap.size) (fun _ _ kk _=>n-(intOf kk).toNat)
   case atStart=>exact⟨0,by omega,rfl,by rfl,rfl,HO,HT,HB,hlow⟩
   case round=>
    clear HO HT HB hlow;obtain⟨k,hk,rfl,rfl,rfl,HO,HT,HB,hlow⟩:=hrel;by_cases hkn:k<n
    ·have hkn2:(k:Int)<(n:Int):=by omega
     rcases yx HS with h0 | ⟨sb,so,rfl,hsb,hsc⟩
     ·omega
     have hst:=(hsc k hkn).kept hsb (yx HB);clear hsc;have hvt:=(yx HVC).kept hbb (yx HB);have hsm:=yx HSM k hkn;have hhk:=lQ L a b c d (v1,v2,v3) k;have HHK:Hid (fh L a b c d (v1,v2,v3) (k+1)=fh L a b c d (v1,v2,v3) k+if bS (v1,v2,v3) (apD a b c d (stA L k).2)=true then 1 else 0):=yz rfl;have HID:Hid (fj L a b c d (v1,v2,v3) (k+1)=if bS (v1,v2,v3) (apD a b c d (stA L k).2)=true then (stA L k).1 else fj L a b c d (v1,v2,v3) k):=yz rfl;obtain⟨⟨s1,s2,s3,s4⟩,hs⟩:∃s,stA L k=s:=⟨_,rfl⟩
     rw[hs]at hst hsm HID HHK;clear hs;obtain⟨c0,c1,c2,c3⟩:=hst;obtain⟨d0,d1,d2⟩:=hvt;obtain⟨e0,e1,e2,e3⟩:=yx HT;have HID':Hid (fj L a b c d (v1,v2,v3) (k+1)=if bS (v1,v2,v3) (apD a b c d (s2,s3,s4))=true then s1 else fj L a b c d (v1,v2,v3) k):=HID;have HHK':Hid (fh L a b c d (v1,v2,v3) (k+1)=fh L a b c d (v1,v2,v3) k+if bS (v1,v2,v3) (apD a b c d (s2,s3,s4))=true then 1 else 0):=HHK;have cA:=yz (fun W=>lk a b c d (s2,s3,s4) W (yx HRT) hsm);have cS:=yz (fun W=>iT (apD a b c d (s2,s3,s4)) (v1,v2,v3) W (qX (yx HRT) hsm) (om hwd));clear HID HHK hsm;generalize apD a b c d (s2,s3,s4)=q at *;obtain⟨q1,q2,q3⟩:=q;generalize bS (v1,v2,v3) (q1,q2,q3)=sm at *;generalize fh L a b c d (v1,v2,v3) k=hk0 at *;generalize hiv:fj L a b c d (v1,v2,v3) k=idv at *;clear hiv;simp only at cA cS;have r0:=cell_regrown c0;have r1:=cell_regrown c1;have r2:=cell_regrown c2;have r3:=cell_regrown c3;have x0:=cell_regrown d0;have x1:=cell_regrown d1;have x2:=cell_regrown d2;have y0:=cell_regrown e0;have y1:=cell_regrown e1;have y2:=cell_regrown e2;have y3:=cell_regrown e3;have HC0:=yz c0;clear c0 c1 c2 c3 d0 d1 d2 e0 e1 e2 e3;go_wp2_with fail;refine bQ ?_;repeat (go_big_quiet_step (with_reducible first | exact aC cA | exact aC cS))
     refine bW fun dq osq=>?_;have hx:=below_regrown wr dq osq;have HO3:=yz (jp (yx HO) hx);have HT3:=yz ((yx HT).kept (yx HT).lt hx);have HB3:=aA HB hx;have hlow3:=Nat.le_trans hlow hx.size;have c0:=r0 dq osq;generalize grow (redrawn wr dq) osq=W3 at hx HO3 HT3 HB3 hlow3 c0 ⊢;clear hx cA cS r0 r1 r2 r3 x0 x1 x2 y0 y1 y2 y3 HO HT HB hlow;cases sm
     ·rw[if_neg (by simp)]at HID' HHK';go_wp2_with fail;go_roundw
      case rel=>exact⟨k+1,by omega,by go_num,by rw[yx HHK'];rfl,by rw[yx HID'],HO3,HT3,HB3,hlow3⟩
      case measure=>simp[intOf];omega
     ·rw[if_pos rfl]at HID' HHK';go_wp2_with fail;go_roundw
      case rel=>exact⟨k+1,by omega,by go_num,by rw[yx HHK'];go_num,by rw[yx HID'],HO3,HT3,HB3,hlow3⟩
      case measure=>simp[intOf];omega
    ·have hkn':k=n:=by omega
     subst hkn';have hhk:=lQ L a b c d (v1,v2,v3) k;have HCC:Hid ((hc0+fh L a b c d (v1,v2,v3) k:Nat)=gc L a b c d S k (i+1)):=yz (yx HHI).symm;have hli:(mf L a b c d (S.take i)).length≤6:=by unfold mf;rw[List.length_map];have:=List.length_take_le i S;omega
     rw[yx HCC];generalize fj L a b c d (v1,v2,v3) k=idv at *;generalize hce:gc L a b c d S k (i+1)=hcn at *;have HCE:=yz hce;clear hce;have Z1:=ak wr (.cells #[J Y idv] 2);have hown:=jp (yx HO) Z1;have B3:=aj (yx HB) Z1;have T3:=(yx HT).kept (yx HT).lt Z1;clear Z1 HO HB HT;generalize mf L a b c d (S.take i)=Pk at *;go_wp2_with (at_builtin;refine wpList_append_own _ rfl _ _ 188 rfl (w.heap.size+1) 2 i0 (J Y 0) 1 8 Tryz.underlying188 hinf hz0 hz1 hz2 rfl (by decide) _ _ _ rfl hown ⟨wr.heap.size,0,none⟩ 1 1 (gR [idv]) rfl rfl ?d2 (fun u hu=>uO hu) ?d3 ?d4 ?d5 ?_)
     case d2=>first | exact fun j u h=>h | exact jN _ _ _
     case d3=>omega
     case d4=>omega
     case d5=>first | omega | (simp;omega)
     intro v7 V7 hown7 hgrow7 _;have ne:∀z,z<w.heap.size+1→some z≠u8.ownBlock:=fun z hz e=>by have:=(hown.lt z e.symm).1;omega
     have HB8:Hid (Below w.heap.size w V7):=yz (B3.trans ⟨hgrow7.os,hgrow7.tape,hgrow7.output,hgrow7.size,fun z hz=>hgrow7.block z (by simp;omega) (ne z (by omega))⟩);have HT8:=yz (T3.same (hgrow7.block w.heap.size (by simp;omega) (ne _ (by omega))))
     have HO8:Hid (V7.ownsRow (w.heap.size+1) 2 1 v7 (mf L a b c d (S.take (i+1))).length (gR (mf L a b c d (S.take (i+1))))):=yz (by
      rw[yx HSI,List.length_append];unfold gR;rw[List.map_append]
      exact hown7)
     have hlow8:w.heap.size+1≤V7.heap.size:=by have:=hgrow7.size;simp at this;omega
     clear hown7 hgrow7 hown B3 T3 ne;go_wp2_with fail;go_roundw
     case rel=>exact⟨i+1,by omega,by go_num,by rw[yx HCE],HO8,HT8,HB8,hlow8⟩
     case measure=>simp[intOf];omega
  ·have him':i=m:=by omega
   subst him';rw[yx HAL]at HO;go_wp2_with fail;exact bodyPost_ret (v:=.tuple #[u8,J Y (gc L a b c d S n i:Int)]) (by simp[results,Tryz.results141,go_sem]) rfl ⟨⟨_,rfl,Fu (yx HO) (by omega)⟩,yx HB⟩
end
section
open Go.RowKit Go.Sort
def jX(f:Nat→ByteArray)(j:Nat):Value:=.string (f j)
def mkS(k0:Nat)(j:Nat):ByteArray:=⟨#[109]⟩ ++ dG (k0+j)
theorem Jk{w w1 w2:World}{g:Nat}(h:w.grownBy w1 (some g))(hb:Below w1.heap.size w1 w2):w.grownBy w2 (some g):=
 ⟨hb.os.trans h.os,hb.tape.trans h.tape,hb.output.trans h.output,Nat.le_trans h.size hb.size,fun k hk hne=>by rw[hb.block k (Nat.lt_of_lt_of_le hk h.size)];exact h.block k hk hne⟩
theorem zn(x:ByteArray):(x.toList==x.toList)=true:=by simp
theorem tE(n lo hi lo' hi':Nat)(v v':Value)(f:Nat→ByteArray)(w:World)(hn:n≤1048576)(h:eJ w 9 1 lo hi n v (jX f))(h':eJ w 9 1 lo' hi' n v' (jX f)):
  Calls Tryz.prog 53 #[v,v'] w fun e w'=>e=.returned (.bool true)∧Below w.heap.size w w':=by
 have bare:∀(a a':Option Addr) (c c':Nat),Calls Tryz.prog 53 #[.slice a 0 c,.slice a' 0 c'] w fun e w'=>e=.returned (.bool true)∧Below w.heap.size w w':=by
  intro a a' c c';clear h h';go_enter Tryz.func53,Tryz.ntmps53;go_wp2_with fail;refine wp_loop_rounds 1 ?_;rw[rounds_succ];go_wp2_with fail;go_ret;exact⟨rfl,Below.refl _ _⟩
 rcases h with ⟨rfl,a,c,rfl⟩ | ⟨g,c,rfl,_,_,hr⟩
 ·rcases h' with ⟨_,a',c',rfl⟩ | ⟨g',c',rfl,_⟩
  ·exact bare _ _ _ _
  ·exact bare _ _ _ _
 rcases h' with ⟨rfl,a',c',rfl⟩ | ⟨g',c',rfl,_,_,hr'⟩
 ·exact bare _ _ _ _
 clear bare;have HR:=yz hr;have HR':=yz hr';clear hr hr';go_enter Tryz.func53,Tryz.ntmps53;go_wp2_with fail;go_loopw [5] (fun i wr=>∃k:Nat,k≤n∧i=.int .i64 k∧Hid (Below w.heap.size w wr)) (fun i _=>n-(intOf i).toNat)
 case atStart=>exact⟨0,by omega,rfl,yz (Below.refl _ _)⟩
 case round=>
  obtain⟨k,hk,rfl,HB⟩:=hrel;by_cases hkn:k<n
  ·have hkn2:(k:Int)<(n:Int):=by omega
   have c0:=((yx HR).kept (yx HB)).cell (j:=k) (by omega);have d0:=((yx HR').kept (yx HB)).cell (j:=k) (by omega);unfold jX at c0 d0;generalize f k=x at c0 d0;have hx:=zn x;go_wp2_with fail;go_quiet (fail)
   have HB2:=yz ((yx HB).trans (⟨rfl,rfl,rfl,Nat.le_refl _,fun _ _=>rfl⟩:Below w.heap.size wr (wr.drewN nq)));clear HB c0 d0;generalize wr.drewN nq=W2 at HB2 ⊢;go_wp2_with fail;go_roundw
   case rel=>exact⟨k+1,by omega,by go_num,HB2⟩
   case measure=>simp[intOf];omega
  ·have hkn':k=n:=by omega
   subst hkn';go_wp2_with fail;go_ret;exact⟨rfl,yx HB⟩
theorem qp(n k0 lo hi:Nat)(v:Value)(f:Nat→Value)(w:World)(hn:n≤1048576)(hk0:1≤k0)(hk9:k0≤100000000)(h:eJ w 9 1 lo hi n v f):
  Calls Tryz.prog 54 #[v,.int .i64 k0] w fun e w'=>e=.returned (.int .i64 ((k0+n:Nat):Int))∧eJ w' 9 1 lo hi n v (jX (mkS k0))∧eD lo hi w w':=by
 rcases h with ⟨rfl,a,c,rfl⟩ | ⟨g,c,rfl,h1,h2,hr⟩
 ·go_enter Tryz.func54,Tryz.ntmps54;go_wp2_with fail;refine wp_loop_rounds 1 ?_;rw[rounds_succ];go_wp2_with fail;go_ret;exact⟨rfl,.inl ⟨rfl,_,_,rfl⟩,eD.refl _ _ _⟩
 have HR:=yz hr;clear hr;go_enter Tryz.func54,Tryz.ntmps54;go_wp2_with fail;go_loopw [1,5] (fun k i wr=>∃q:Nat,q≤n∧i=.int .i64 q∧k=.int .i64 ((k0+q:Nat):Int)∧Hid (bI wr 9 g (n*1) (fun j=>if j<q then jX (mkS k0) j else f j))∧Hid (w.grownBy wr (some g))) (fun _ i _=>n-(intOf i).toNat)
 case atStart=>exact⟨0,by omega,rfl,rfl,yz ((yx HR).congr (fun j hj=>by simp)),yz (JW w _)⟩
 case round=>
  obtain⟨q,hq,rfl,rfl,HO,HG⟩:=hrel;by_cases hqn:q<n
  ·have hqn2:(q:Int)<(n:Int):=by omega
   have cM:=yz (nK (k0+q) wr (by omega) (by omega));obtain⟨kq,hkq⟩:∃kq,k0+q=kq:=⟨_,rfl⟩
   have HQ:=yz hkq;rw[hkq]at cM ⊢;have hk9':(kq:Int)≤200000000:=by omega
   have hk1':kq+1=k0+(q+1):=by omega
   clear hkq;go_wp2_with fail;refine(yx cM).mono ?_;rintro e w2 ⟨rfl,hx⟩;have HG2:=yz (Jk (yx HG) hx);have O2:=(yx HO).kept hx;obtain⟨t,ht⟩:∃t,(⟨#[109]⟩ ++ dG kq:ByteArray)=t:=⟨_,rfl⟩
   have e0:=O2.cell (j:=q) (by omega);have f0:=O2.free q;rw[if_neg (by omega)]at e0;have R1:=O2.set q (.string t)
   have HO3:Hid (bI _ 9 g (n*1) (fun j=>if j<q+1 then jX (mkS k0) j else f j)):=yz (R1.congr (fun j hj=>by
    by_cases h1:j=q
    ·subst h1;rw[if_pos rfl,if_pos (by omega)];unfold jX mkS;rw[yx HQ,ht]
    ·by_cases hlt:j<q
     ·rw[if_neg h1,if_pos hlt,if_pos (by omega)]
     ·rw[if_neg h1,if_neg hlt,if_neg (by omega)]))
   have HG3:=yz (Ho (yx HG2) q (.string t));rw[ht];clear hx ht O2 R1 HO HG cM HQ HG2;go_wp2_with fail;go_roundw
   case rel=>exact⟨q+1,by omega,by go_num,by rw[←hk1'];go_num,HO3,HG3⟩
   case measure=>simp[intOf];omega
  ·have hqn':q=n:=by omega
   subst hqn';go_wp2_with fail;go_ret;exact⟨rfl,.inr ⟨g,c,rfl,h1,h2,(yx HO).congr (fun j hj=>if_pos (by omega))⟩,eD.of (yx HG) h1 h2⟩
theorem qd(n k0 lo hi:Nat)(v:Value)(w:World)(hn:n≤1048576)(hk0:1≤k0)(hk9:k0≤100000000)(h:eJ w 9 1 lo hi n v (jX (mkS k0))):
  Calls Tryz.prog 55 #[v,.int .i64 k0] w fun e w'=>e=.returned (.int .i64 ((k0+n:Nat):Int))∧Below w.heap.size w w':=by
 rcases h with ⟨rfl,a,c,rfl⟩ | ⟨g,c,rfl,h1,h2,hr⟩
 ·go_enter Tryz.func55,Tryz.ntmps55;go_wp2_with fail;refine wp_loop_rounds 1 ?_;rw[rounds_succ];go_wp2_with fail;go_ret;exact⟨rfl,Below.refl _ _⟩
 have HR:=yz hr;clear hr;go_enter Tryz.func55,Tryz.ntmps55;go_wp2_with fail;go_loopw [1,5] (fun k i wr=>∃q:Nat,q≤n∧i=.int .i64 q∧k=.int .i64 ((k0+q:Nat):Int)∧Hid (Below w.heap.size w wr)) (fun _ i _=>n-(intOf i).toNat)
 case atStart=>exact⟨0,by omega,rfl,rfl,yz (Below.refl _ _)⟩
 case round=>
  obtain⟨q,hq,rfl,rfl,HB⟩:=hrel;by_cases hqn:q<n
  ·have hqn2:(q:Int)<(n:Int):=by omega
   have cM:=yz (fun W=>nK (k0+q) W (by omega) (by omega));have c0:=((yx HR).kept (yx HB)).cell (j:=q) (by omega);unfold jX mkS at c0;obtain⟨kq,hkq⟩:∃kq,k0+q=kq:=⟨_,rfl⟩
   rw[hkq]at cM c0 ⊢;have hk9':(kq:Int)≤200000000:=by omega
   have hk1':kq+1=k0+(q+1):=by omega
   clear hkq;generalize (⟨#[109]⟩ ++ dG kq:ByteArray)=t at cM c0;have hx:=zn t;have r0:=cell_regrown c0;clear c0;go_wp2_with fail;refine bQ ?_;repeat (go_big_quiet_step (with_reducible first | exact aC cM))
   refine bW fun dq osq=>?_;have hx2:=aj (yx HB) (below_regrown wr dq osq);generalize grow (redrawn wr dq) osq=W2 at hx2 ⊢;have HB2:=yz hx2;clear hx2 cM HB r0;go_wp2_with fail;go_roundw
   case rel=>exact⟨q+1,by omega,by go_num,by rw[←hk1'];go_num,HB2⟩
   case measure=>simp[intOf];omega
  ·have hqn':q=n:=by omega
   subst hqn';go_wp2_with fail;go_ret;exact⟨rfl,yx HB⟩
end
end Go.Proofs.YteoonaanoenjiaaGreatDoor
