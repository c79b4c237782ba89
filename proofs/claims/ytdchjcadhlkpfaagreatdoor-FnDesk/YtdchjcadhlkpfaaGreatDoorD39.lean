/- Several texts in one: SplitT. -/
import Derived.Test.YtdchjcadhlkpfaaGreatDoorD38
namespace Go.Proofs.YtdchjcadhlkpfaaGreatDoor
set_option linter.unusedVariables false
set_option linter.unusedSimpArgs false
set_option maxRecDepth 100000
set_option maxHeartbeats 8000000
section
open Go.RowKit
def vW(w:World)(v:Value)(l:List (List UInt8)):Prop:=∃g cap,v=.slice (some ⟨g,0,none⟩) l.length cap∧g<w.heap.size∧∀(j:Nat) x,l[j]? = some x→w.cell? ⟨g,j,none⟩=some (iR x)
theorem sA{w:World}{base:Nat}{v:Value}{l:List (List UInt8)}(h:w.ownsRow base 9 1 v l.length (l.map iR))(hl:l≠[]):vW w v l:=by
 have hn:0<l.length:=List.length_pos_iff.2 hl;rcases h.2 with ⟨_,h0⟩ | ⟨g,cap,_,hv,_⟩
 ·omega
 ·refine⟨g,cap,hv,?_,fun j x hj=>?_⟩
  ·exact(h.lt g (by rw[hv];rfl)).2
  ·subst hv
   have hjl:j<l.length:=by
    rcases Nat.lt_or_ge j l.length with h | h
    ·exact h
    ·rw[List.getElem?_eq_none h]at hj;cases hj
   rw[h.cellAt j (by omega),List.getElem?_map,hj];rfl
theorem uJ(s:ByteArray)(w:World)(hs:s.size≤8000):
  Calls Tryz.prog 17 #[.string s,.int .u8 44] w fun e w'=>∃v,e=.returned v∧vW w' v ((bX ([],[]) s.data.toList).1 ++ [(bX ([],[]) s.data.toList).2])∧Below w.heap.size w w':=by
 obtain⟨i0,hi,hz0,hz1,hz2⟩:=CU;go_enter Tryz.func17,Tryz.ntmps17;go_wp2_with fail;go_loopw [5,6,7] (fun v f i wr=>∃(k:Nat),k≤s.size∧i=.int .i64 k∧f=.int .i64 (frN s k)∧wr.ownsRow w.heap.size 9 1 v (spN s k).1.length ((spN s k).1.map iR)∧w.grownBy wr none) (fun _ _ i _=>s.size-(intOf i).toNat)
 case atStart=>exact⟨0,by omega,rfl,rfl,World.ownsRow_lit w #[] 0 (Nat.le_refl _) (by simp[maxLen]) rfl,World.grownBy_alloc w _ none⟩
 case round=>
  obtain⟨k,hk,rfl,rfl,hown,hg⟩:=hrel;by_cases hkn:k<s.size
  ·have HN:=yz (rC s k hkn);have hfr:=yH s k;have hlen:=At s k hk;have HFN:Hid (frN s (k+1)=if gU s k=44 then k+1 else frN s k):=yz rfl;have hby:gU s k=s[k].toNat:=kD hkn;by_cases c:s[k]=44
   ·have HP:=yz (xI s k hk);have c':s[k].toNat=44:=by rw[c];rfl
    have hsz:=hg.size;have HNN:Hid (spN s (k+1)=((spN s k).1 ++ [(spN s k).2],[])):=yz (by rw[yy HN,if_pos c]);have HF2:Hid (frN s (k+1)=k+1):=yz (by rw[yy HFN,hby,c'];rfl);clear HN HFN hby
    go_wp2_with (at_builtin;refine wpList_append_own _ rfl _ _ 27 rfl w.heap.size 9 i0 (.string ⟨#[]⟩) 1 16 Tryz.underlying27 hi hz0 hz1 hz2 rfl (by decide) _ _ _ rfl (hown.alloc _) ⟨wr.heap.size,0,none⟩ 1 1 [.string (s.extract (frN s k) k)] rfl rfl ?c1 ?c2 ?c3 ?c4 ?c5 ?_)
    case c1=>
     intro j x hj
     match j,hj with
     | 0,hj=>simp at hj;subst hj;simp[Addr.add]
    case c2=>intro x hx;simp at hx;subst hx;rfl
    case c3=>unfold maxLen;omega
    case c4=>omega
    case c5=>simp;omega
    intro v' w2 hown' hgrow _;have hrow:∀i,u5.ownBlock=some i→w.heap.size≤i:=fun i e=>(hown.lt i e).1;have hg3:w.grownBy w2 none:=oz (qK hg _) hgrow hrow;rw[yy HP]at hown';have hx2:List.map iR (spN s k).1 ++ [Value.string ⟨(spN s k).2.toArray⟩]=((spN s k).1 ++ [(spN s k).2]).map iR:=by simp[iR]
    rw[hx2]at hown';have hl2:(spN s k).1.length+1=((spN s k).1 ++ [(spN s k).2]).length:=by simp
    have HO:=yz hown';have HG:=yz hg3;clear hown' hown hgrow hrow hg3 hx2;go_wp2_with fail;go_roundw
    case rel=>exact⟨k+1,by omega,by simp,by rw[yy HF2];simp,by rw[yy HNN];simpa using yy HO,yy HG⟩
    case measure=>simp[intOf];omega
   ·have c':(s[k].toNat:Int)≠44:=by intro e;exact c (UInt8.toNat.inj (show s[k].toNat=44 by omega))
    have cb:((s[k].toNat:Int)==44)=false:=by simpa using c'
    have HNN:Hid (spN s (k+1)=((spN s k).1,(spN s k).2 ++ [s[k]])):=yz (by rw[yy HN,if_neg c]);have HF2:Hid (frN s (k+1)=frN s k):=yz (by rw[yy HFN,hby,if_neg (by omega)]);have HO:=yz hown;have HG:=yz hg;clear HN HFN hby hown hg hlen hfr;go_wp2_with fail;go_roundw
    case rel=>exact⟨k+1,by omega,by simp,by rw[yy HF2],by rw[yy HNN];exact yy HO,yy HG⟩
    case measure=>simp[intOf];omega
  ·have hks:k=s.size:=by omega
   subst hks;have hfr:=yH s s.size;have hlen:=At s s.size hk;have HP:=yz (xI s s.size hk);have hsz:=hg.size;have HA:=yz (Ff s);go_wp2_with (at_builtin;refine wpList_append_own _ rfl _ _ 27 rfl w.heap.size 9 i0 (.string ⟨#[]⟩) 1 16 Tryz.underlying27 hi hz0 hz1 hz2 rfl (by decide) _ _ _ rfl (hown.alloc _) ⟨wr.heap.size,0,none⟩ 1 1 [.string (s.extract (frN s s.size) s.size)] rfl rfl ?c1 ?c2 ?c3 ?c4 ?c5 ?_)
   case c1=>
    intro j x hj
    match j,hj with
    | 0,hj=>simp at hj;subst hj;simp[Addr.add]
   case c2=>intro x hx;simp at hx;subst hx;rfl
   case c3=>unfold maxLen;omega
   case c4=>omega
   case c5=>simp;omega
   intro v' w2 hown' hgrow _;have hrow:∀i,u5.ownBlock=some i→w.heap.size≤i:=fun i e=>(hown.lt i e).1;have hg3:w.grownBy w2 none:=oz (qK hg _) hgrow hrow;rw[yy HP]at hown';have hx2:List.map iR (spN s s.size).1 ++ [Value.string ⟨(spN s s.size).2.toArray⟩]=((spN s s.size).1 ++ [(spN s s.size).2]).map iR:=by simp[iR]
   rw[hx2]at hown';have hl2:(spN s s.size).1.length+1=((spN s s.size).1 ++ [(spN s s.size).2]).length:=by simp
   have HO:=yz hown';have HG:=yz hg3;clear hown' hown hgrow hrow hg3 hx2;go_wp2_with fail;go_ret;refine⟨_,rfl,?_,pC (yy HG)⟩;rw[←yy HA];have hf:=yy HO;exact sA (by simpa using hf) (by simp)
end
end Go.Proofs.YtdchjcadhlkpfaaGreatDoor
