/- Several texts in one: NaC. -/
import Derived.Test.YteoonaanoenjiaaGreatDoorL24
namespace Go.Proofs.YteoonaanoenjiaaGreatDoor
set_option linter.unusedVariables false
set_option linter.unusedSimpArgs false
set_option maxRecDepth 100000
set_option maxHeartbeats 8000000
section
open Go.Value renaming int → J
open Go.IntKind renaming i64 → Y
open Go.RowKit Go.Sort
variable {ids:List Int}
theorem Dz{L:List St}{S:List D3}(h:bk L=false):bN L S ids=false:=by unfold bN;rw[h];rfl
theorem DA{L:List St}{S:List D3}(h:aL S=false):bN L S ids=false:=by unfold bN;rw[h,Bool.and_false];rfl
theorem DB{L:List St}{S:List D3}(h:ids.length≠S.length):bN L S ids=false:=by unfold bN;rw[decide_eq_false h,Bool.and_false];rfl
theorem DC{L:List St}{S:List D3}(h1:bk L=true)(h2:aL S=true)(h3:ids.length=S.length):bN L S ids=fd (au L S ids ids.length) (au L S ids ids.length).length:=by unfold bN;rw[h1,h2,decide_eq_true h3];rfl
theorem zF{A:List Sg}{n:Nat}(h:∀i,i<n→(!jd (sgA A i).2.2&&eQ A (sgA A i) i)=true):fd A n=true:=by
 unfold fd;rw[List.all_eq_true];exact fun i hi=>h i (List.mem_range.1 hi)
theorem um{A:List Sg}{n i:Nat}(hi:i<n)(h:(!jd (sgA A i).2.2&&eQ A (sgA A i) i)=false):fd A n=false:=by
 unfold fd;rw[List.all_eq_false];exact⟨i,List.mem_range.2 hi,by rw[h];simp⟩
theorem sl{w:World}{B:Nat}{a:Option Addr}{c n m:Nat}{t:TypeId}{xs:List Value}(h:w.ownsRow B t m (.slice a n c) n xs):c≤maxLen:=by
 rcases h.2 with ⟨h1,h0⟩ | ⟨g,cap,cur,hv,hb,hg,hnc,hcm,hcs,htake⟩
 ·injection h1 with _ e2 e3;omega
 ·injection hv with e1 e2 e3;omega
theorem tG(L:List St)(S:List D3)(ids:List Int)(ar br ir:Option Addr)(cr dr er:Nat)(p:Addr)(w:World)(hn:L.length≤1048576)(hcap:L.length≤cr)(hc9:cr≤9223372036854775807)(hn2:S.length≤1048576)(hcap2:S.length≤dr)(hd9:dr≤9223372036854775807)(hn3:ids.length≤1048576)(hS:aH w ar L L.length)(hD:bi w br S S.length)(hI:ij w ir ids ids.length)(hE:bm p w):
  Calls Tryz.prog 203 #[.slice ar L.length cr,.slice br S.length dr,.slice ir ids.length er] w fun e w'=>e=.returned (.bool (bN L S ids))∧Below w.heap.size w w':=by
 have cK:=yz (fun (W:World) hW hE=>gE L ar cr p W hn hcap hc9 hW hE);have cP:=yz (fun (W:World) hW=>ft S br dr W hn2 hcap2 hd9 hW);have cO:Hid (bk L=true→S.length≤6→ids.length=S.length→∀W:World,aH W ar L L.length→bi W br S S.length→ij W ir ids ids.length→bm p W→Calls Tryz.prog 204 #[.slice ar L.length cr,.slice br S.length dr,.slice ir ids.length er] W fun e w'=>(∃v,e=.returned v∧w'.ownsRow W.heap.size 299 7 v (au L S ids ids.length).length (dp (au L S ids ids.length)))∧Below W.heap.size W w'):=yz (fun hk hm hl W h1 h2 h3 h4=>nX L S ids ids.length ar br ir cr dr er p W hk hn hcap hc9 hm hl h1 h2 h3 h4);have H1:Hid (bk L=false→bN L S ids=false):=yz Dz;have H2:Hid (aL S=false→bN L S ids=false):=yz DA;have H3:Hid (ids.length≠S.length→bN L S ids=false):=yz DB;have H4:Hid (bk L=true→aL S=true→ids.length=S.length→bN L S ids=fd (au L S ids ids.length) (au L S ids ids.length).length):=yz DC;have H6:Hid (aL S=true→S.length≤6):=yz (fun h=>(bK h).1);have hAL:=iX L S ids ids.length;have HS:=yz hS;have HD:=yz hD;have HI:=yz hI;have HE:=yz hE;clear hS hD hI hE;generalize bN L S ids=R at *;generalize au L S ids ids.length=A at *;generalize S.length=m at *;generalize ids.length=k at *;generalize L.length=n at *;go_enter Tryz.func203,Tryz.ntmps203;go_wp2_with fail;refine(yx cK _ (yx HS) (yx HE)).mono ?_;rintro e W1 ⟨rfl,hx⟩;have B1:=yz hx;clear hx;cases hk:bk L
 ·obtain rfl:=yx H1 hk;go_wp2_with fail;go_ret;exact⟨rfl,yx B1⟩
 go_wp2_with fail;refine(yx cP _ ((yx HD).kept (yx B1))).mono ?_;rintro e W2 ⟨rfl,hx⟩;have B2:=aA B1 hx;clear hx B1;cases hp:aL S
 ·obtain rfl:=yx H2 hp;go_wp2_with fail;go_ret;exact⟨rfl,yx B2⟩
 by_cases hl0:k≠m
 ·obtain rfl:=yx H3 hl0;have hl':¬(k:Int)=(m:Int):=by omega
  have hl2:((k:Int)==(m:Int))=false:=by simp;omega
  go_wp2_with fail;go_ret;exact⟨rfl,yx B2⟩
 have hl:k=m:=Decidable.not_not.1 hl0;clear hl0;have HR:=yz (yx H4 hk hp hl);have hm6:=yx H6 hp;have cO':=yz (yx cO hk hm6 hl);subst hl;clear hk hp H1 H2 H3 H4 H6 cK cP cO;go_wp2_with fail;refine(yx cO' _ ((yx HS).kept (yx B2)) ((yx HD).kept (yx B2)) ((yx HI).kept (yx B2)) ((yx HE).kept (yx B2))).mono ?_;rintro e W3 ⟨⟨v3,rfl,ho⟩,hx⟩;obtain⟨a3,c3,rfl⟩:=Fv ho;have hcap3:=BW ho (by omega);have HSG:=yz (na ho);have B3:=aA B2 hx;have hc39:c3≤9223372036854775807:=Nat.le_trans (sl ho) (by decide +kernel);clear ho hx B2 cO';generalize hal:A.length=al at *;clear hal;have cF:Hid (∀(s:Sg) (i:Nat) (a:Option Addr) (W:World),i≤al→fG W a A i→Calls Tryz.prog 218 #[sgV s,.slice a i c3] W fun e w'=>e=.returned (.bool (eQ A s i))∧Below W.heap.size W w'):=yz (fun s i a W hi hs=>lc A i s a c3 W (by omega) (by omega) hc39 hs);go_wp2_with fail;rcases yx HSG with h0 | ⟨sb,so,rfl,hsb,hsc⟩
 ·subst h0;have HY:Hid (R=true):=yz (by rw[yx HR];rfl);refine wp_loop_rounds 1 ?_;rw[rounds_succ];go_wp2_with fail;go_ret;exact⟨by rw[yx HY];rfl,yx B3⟩
 have HSC:=yz hsc;clear hsc;have hsb3:sb<W3.heap.size:=hsb;go_loopw [31] (fun kk wr=>∃i:Nat,i≤al∧kk=J Y i∧Hid (∀j,j<i→(!jd (sgA A j).2.2&&eQ A (sgA A j) j)=true)∧Hid (Below W3.heap.size W3 wr)) (fun kk _=>al-(intOf kk).toNat)
 case atStart=>exact⟨0,by omega,rfl,yz (fun j hj=>absurd hj (Nat.not_lt_zero _)),yz (Below.refl _ _)⟩
 case round=>
  obtain⟨i,hi,rfl,HF,HB⟩:=hrel;by_cases hin:i<al
  ·have hin2:(i:Int)<(al:Int):=by omega
   obtain⟨t,ht⟩:∃t,sgA A i=t:=⟨_,rfl⟩
   have hst:=((yx HSC) i hin).kept (yx HB);rw[ht]at hst;have HT:=yz ht;clear ht;have HSi:Hid (fG wr (some ⟨sb,so,none⟩) A i):=yz ((((yx HSG).less (Nat.le_of_lt hin))).kept (yx HB));have cFi:=yz (fun W h=>yx cF t i (some ⟨sb,so,none⟩) W (Nat.le_of_lt hin) h);have HOK:Hid ((!jd (sgA A i).2.2&&eQ A (sgA A i) i)=(!jd t.2.2&&eQ A t i)):=yz (by rw[yx HT]);have Z:=ak wr (.cells #[J Y t.1.1,J Y t.1.2.1,J Y t.1.2.2,J Y t.2.1,J Y t.2.2.1,J Y t.2.2.2.1,J Y t.2.2.2.2] 299);have T1:=gD wr t 299;have HB1:=aA HB Z;have HS1:=an HSi Z;clear Z HB HSi;generalize hfv:eQ A t i=fv at *;clear hfv;obtain⟨⟨b1,b2,b3⟩,b4,b5,b6,b7⟩:=t;have cFj:Hid (∀(W:World),fG W (some ⟨sb,so,none⟩) A i→Calls Tryz.prog 218 #[.agg #[J Y b1,J Y b2,J Y b3,J Y b4,J Y b5,J Y b6,J Y b7],.slice (some ⟨sb,so,none⟩) i c3] W fun e w'=>e=.returned (.bool fv)∧Below W.heap.size W w'):=cFi;clear cFi;have HOK':Hid ((!jd (sgA A i).2.2&&eQ A (sgA A i) i)=(!eqB b5 b6 b7 0 0 0&&fv)):=HOK;clear HOK;have he:=fun W=>vS b5 b6 b7 0 0 0 W;obtain⟨c0,c1,c2,c3',c4,c5,c6⟩:=hst;simp only at c0 c1 c2 c3' c4 c5 c6 T1 HB1 HS1;go_wp2_with fail;clear c0 c1 c2 c3' c4 c5 c6;generalize wr.alloc (.cells #[J Y b1,J Y b2,J Y b3,J Y b4,J Y b5,J Y b6,J Y b7] 299)=W4 at T1 HB1 HS1 ⊢;generalize wr.heap.size=tb at *;obtain⟨x0,x1,x2,x3,x4,x5,x6⟩:=T1;simp only[Nat.zero_add]at x0 x1 x2 x3 x4 x5 x6;have r0:=cell_regrown x0;have r1:=cell_regrown x1;have r2:=cell_regrown x2;have r3:=cell_regrown x3;have r4:=cell_regrown x4;have r5:=cell_regrown x5;have r6:=cell_regrown x6;clear x0 x1 x2 x3 x4 x5 x6;have hic:(i:Int)≤(c3:Int):=by omega
   cases hz:eqB b5 b6 b7 0 0 0
   ·rw[hz]at he HOK';rw[Bool.not_false,Bool.true_and]at HOK';refine bQ ?_;repeat (go_big_quiet_step (first | (with_reducible exact Calls.regrown_of (yx cFj _ ((yx HS1).kept (below_regrown _ _ _))))))
    refine bW fun dq osq=>?_;have hx:=aj (yx HB1) (below_regrown W4 dq osq);generalize grow (redrawn W4 dq) osq=W5 at hx ⊢;have HB5:=yz hx;clear hx r0 r1 r2 r3 r4 r5 r6 he cFj HS1 HB1;cases fv
    ·have HNO:Hid (R=false):=yz (by rw[yx HR];exact um hin (yx HOK'));go_wp2_with fail;go_ret;exact⟨by rw[yx HNO];rfl,(yx B3).trans ((yx HB5).mono (yx B3).size)⟩
    ·go_wp2_with fail;go_roundw
     case rel=>exact⟨i+1,by omega,by go_num,yz (fun l hl=>by
      by_cases e:l=i
      ·rw[e];exact yx HOK'
      ·exact yx HF l (by omega)),HB5⟩
     case measure=>simp[intOf]<;>omega
   ·rw[hz]at he HOK';have HNO:Hid (R=false):=yz (by rw[yx HR];exact um hin (yx HOK'));refine bQ ?_;repeat (go_big_quiet_step (fail))
    refine bW fun dq osq=>?_;have hx:=aj (yx HB1) (below_regrown W4 dq osq);generalize grow (redrawn W4 dq) osq=W5 at hx ⊢;go_wp2_with fail;go_ret;exact⟨by rw[yx HNO];rfl,(yx B3).trans (hx.mono (yx B3).size)⟩
  ·have hin':i=al:=by omega
   subst hin';have HY:Hid (R=true):=yz (by rw[yx HR];exact zF (yx HF));go_wp2_with fail;go_ret;exact⟨by rw[yx HY];rfl,(yx B3).trans ((yx HB).mono (yx B3).size)⟩
end
end Go.Proofs.YteoonaanoenjiaaGreatDoor
