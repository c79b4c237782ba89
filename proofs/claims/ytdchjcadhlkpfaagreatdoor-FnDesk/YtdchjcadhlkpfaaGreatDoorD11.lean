/- Several texts in one: DsH, IeM, IeP, NaA, IdC, L7A, NaB, L7B, TsD. -/
import Derived.WideShapes
import Derived.Test.YtdchjcadhlkpfaaGreatDoorD9
import Derived.Test.YtdchjcadhlkpfaaGreatDoorD10
namespace Go.Proofs.YtdchjcadhlkpfaaGreatDoor
set_option linter.unusedVariables false
set_option linter.unusedSimpArgs false
set_option maxRecDepth 100000
set_option maxHeartbeats 8000000
section
open Go.Value renaming int → J
open Go.IntKind renaming i64 → Y
open Go.RowKit Go.Sort
variable {cap:Nat} {w:World}
theorem ye{P:Program}{ops:Array Oper}{o:Oper}{a:Act}{K:Act→World→Prop}{Q:Exit→Act→World→Prop}{E:Prop}(hgd:o.guard=none)(s x:Operand)(t:TypeId)
  (ho:o.op=.call { callee:=.builtin .append,args:=#[s,x],argTypes:=#[t,t] })
  (base:Nat) (e:TypeId) (i:TypeInfo) (z:Value) (size bytes:Nat) (ht:P.underlying t=some (.slice e)) (hi:P.info? e=some i) (hz:i.zero=some z)
  (hsize:i.size=size) (hby:i.bytes=bytes) (hzs:z.cells.size=size) (hsz:0<size)
  (v:Value) (n:Nat) (xs:List Value) (hs:a.eval s=v) (hown:w.ownsRow base e size v n xs)
  (ad:Addr) (m c:Nat) (news:List Value) (hx:a.eval x=.slice (some ad) m c) (hl:news.length=m*size) (hnews:∀j u,news[j]? = some u→w.cell? (ad.add j)=some u) (h1:∀u∈news,u.oneCell'=true)
  (h63:n+m≤maxLen) (hbytes:(n+m)*bytes≤140737488355328) (hbase:base≤w.heap.size)
  (h:∀v' w',w'.ownsRow base e size v' (n+m) (xs ++ news)→w.grownBy w' v.ownBlock→K (a.put o.dst v') w'):if Region.wanted o (yielded ops a.tmps)=true then Oper.wp P o a w K Q else E:=by
 have hw:Region.wanted o (yielded ops a.tmps)=true:=by simp[Region.wanted,hgd]
 rw[if_pos hw];exact wp_append_own w s x t ho base e i z size bytes ht hi hz hsize hby hzs hsz v n xs hs hown ad m c news hx hl hnews h1 h63 hbytes hbase fun v' w' h2 h3 _=>h v' w' h2 h3
abbrev U4:=Int×Int×Int×Int
structure bj (w:World) (db B:Nat) (t:Tk) (u:U4) (a:Option Addr) (cap:Nat):Prop where
 blk:Blk w db [.slice a t.L.length cap,J Y t.lim,J Y t.mode,J Y t.A,J Y t.B,J Y t.C,J Y t.D,J Y t.coast,J Y t.fr,J Y u.1,J Y u.2.1,J Y u.2.2.1,J Y u.2.2.2] 51
 sky:aC w B t.L a cap
 far:∀x,a=some x→x.block≠db
theorem bj.kept{w':World}{db B:Nat}{t:Tk}{u:U4}{a:Option Addr}(h:bj w db B t u a cap)(hB:Below w.heap.size w w'):bj w' db B t u a cap:=⟨h.blk.kept hB,h.sky.kept hB,h.far⟩
theorem gX{B:Nat}{L:List St}{a:Option Addr}(h:aC w B L a cap):∀y,a=some y→y.block<w.heap.size:=fun y e=>by
 rcases h.2 with ⟨h1,_⟩ | ⟨g,c',cur,e',hb,hh,r⟩
 ·injection h1 with e1;rw[e1]at e;cases e
 ·injection e' with e1;rw[e1]at e;cases e;exact(Array.getElem?_eq_some_iff.1 hh).1
theorem tC{B n:Nat}{a:Option Addr}{xs:List Int}(h:w.ownsRow B 2 1 (.slice a n cap) n (mm xs))(hn:n=xs.length){k:Nat}(hk:k<n):∃g,a=some ⟨g,0,none⟩∧B≤g∧g<w.heap.size∧w.cell? ⟨g,k,none⟩=some (J Y (xs.getD k 0)):=by
 rcases h.2 with ⟨_,h0⟩ | ⟨g,c',cur,e',hb,hh,h1,h2,h3,h4⟩
 ·omega
 ·injection e' with e1;refine⟨g,e1,hb,(Array.getElem?_eq_some_iff.1 hh).1,?_⟩;rw[cell_of_row w g k cur _ _ hh]
  have e:(mm xs)[k]? = some (J Y (xs.getD k 0)):=by
   unfold mm;rw[List.getElem?_map,List.getD_eq_getElem?_getD,List.getElem?_eq_getElem (by omega)];rfl
  rw[←h4,List.getElem?_take,if_pos (by omega)]at e;simpa using e
theorem pt(L:List St)(a b c d cone:Int){k:Nat}(h6:k<6)(hk:k<(eJ L a b c d cone).length):((eJ L a b c d cone).take (k+1)).map (fN L a b c d)=((eJ L a b c d cone).take k).map (fN L a b c d) ++ [fN L a b c d ((eJ L a b c d cone).getD k 0)]:=by
 rw[List.take_succ_eq_append_getElem hk,List.map_append,List.getD_eq_getElem?_getD,List.getElem?_eq_getElem hk];rfl
theorem ma(w:World)(db B:Nat)(t:Tk)(u:U4)(a:Option Addr)(cap:Nat)(cone:Int)(hn:t.L.length≤1048576)(hD:bj w db B t u a cap):
  Calls Tryz.prog 33 #[.pointer (some ⟨db,0,none⟩),J Y cone] w fun e w'=>(∃v,e=.returned v∧w'.ownsRow w.heap.size 72 3 v (bf t.L u.1 u.2.1 u.2.2.1 u.2.2.2 cone).length (eT (bf t.L u.1 u.2.1 u.2.2.1 u.2.2.2 cone)))∧Below w.heap.size w w':=by
 obtain⟨i0,hinf,hz0,hz1,hz2⟩:=info_parts wQ;have hm8:400≤maxLen:=by decide +kernel
 obtain⟨u1,u2,u3,u4⟩:=u;obtain⟨L,lim,mode,A,B',C,D,coast,fr⟩:=t;dsimp only at hn hD ⊢;have HD:=yz hD;clear hD;have cS:=yz (fun W (h:Below w.heap.size w W)=>vG L u1 u2 u3 u4 cone a cap W hn ((yy HD).sky.stars.kept h));have cA:=yz (fun (W:World) (h:Below w.heap.size w W) (id:Int)=>oE L L.length id a cap W hn ((yy HD).sky.stars.kept h));have HPRE:=yz (fun id h=>DY (L:=L) (a:=u1) (b:=u2) (c:=u3) (d:=u4) (cone:=cone) (id:=id) h);have HSN:=yz (fun k h6 hk=>pt L u1 u2 u3 u4 cone (k:=k) h6 hk);have hsl:=rz L u1 u2 u3 u4 cone;have HSP:Hid (bf L u1 u2 u3 u4 cone=((eJ L u1 u2 u3 u4 cone).take 6).map (fN L u1 u2 u3 u4)):=yz rfl;generalize bf L u1 u2 u3 u4 cone=SP at *;generalize eJ L u1 u2 u3 u4 cone=SE at *;go_enter Tryz.func33,Tryz.ntmps33;go_upto_region 1 with fail;have d0:=(yy HD).blk.cell 0 _ rfl;have d9:=(yy HD).blk.cell 9 _ rfl;have d10:=(yy HD).blk.cell 10 _ rfl;have d11:=(yy HD).blk.cell 11 _ rfl;have d12:=(yy HD).blk.cell 12 _ rfl;refine wp_region_held_drew (S:=(fun w'=>w'.cell? ⟨db,0,none⟩=some (.slice a L.length cap)∧w'.cell? ⟨db,9,none⟩=some (J Y u1)∧w'.cell? ⟨db,10,none⟩=some (J Y u2)∧w'.cell? ⟨db,11,none⟩=some (J Y u3)∧w'.cell? ⟨db,12,none⟩=some (J Y u4))) (by kernel_rfl) ⟨d0,d9,d10,d11,d12⟩ (fun hHeld=>?_);refine ac 0 rfl ?_;try simp only[Act.put,ah,ai,aj]
 refine ac 1 rfl ?_;try simp only[Act.put,ah,ai,aj]
 refine ac 2 rfl ?_;try simp only[Act.put,ah,ai,aj]
 refine ac 3 rfl ?_;try simp only[Act.put,ah,ai,aj]
 refine ac 4 rfl ?_;try simp only[Act.put,ah,ai,aj]
 refine ac 5 rfl ?_;try simp only[Act.put,ah,ai,aj]
 refine ac 6 rfl ?_;try simp only[Act.put,ah,ai,aj]
 refine ac 7 rfl ?_;try simp only[Act.put,ah,ai,aj]
 refine ac 8 rfl ?_;try simp only[Act.put,ah,ai,aj]
 refine ac 9 rfl ?_;try simp only[Act.put,ah,ai,aj]
 refine af 10 rfl fun K hK=>?_;go_simp;refine((yy cS) w.drew (Below.refl _ _).drew).mono ?_;rintro e W1 ⟨v1,rfl,hR1,hB1'⟩;obtain⟨a1,c1,rfl⟩:=ek hR1;have HB1:Hid (Below w.heap.size w W1):=yz ((Below.refl w.heap.size w).drew.trans hB1');have HR1:=yz hR1;clear hR1 hB1' d0 d9 d10 d11 d12;have HD1:=ap HD (yy HB1);have d0:=(yy HD1).blk.cell 0 _ rfl;have d9:=(yy HD1).blk.cell 9 _ rfl;have d10:=(yy HD1).blk.cell 10 _ rfl;have d11:=(yy HD1).blk.cell 11 _ rfl;have d12:=(yy HD1).blk.cell 12 _ rfl;refine hK.out _ _ ⟨d0,d9,d10,d11,d12⟩ (fun hHeld1=>?_);clear hK K hHeld;refine af 11 rfl fun K hK=>?_;go_simp;refine hK.out _ _ ⟨d0,d9,d10,d11,d12⟩ (fun hHeld2=>?_);clear hK K hHeld1;refine wpAnyH_done (by kernel_rfl) ?_ _;clear hHeld2 d0 d9 d10 d11 d12;have Z:=an W1 (.cells #[] 72);have HO:=yz (BC W1 W1.heap.size (Nat.le_refl _));have HW:=yz Z;have hsz1:w.heap.size≤W1.heap.size:=(yy HB1).size;have hlt:db<W1.heap.size:=(yy HD1).blk.lt;clear Z;go_wp2_with fail;generalize W1.alloc (.cells #[] 72)=W2 at HO HW ⊢;go_loopw [6,7] (fun v kk wr=>∃k:Nat,k≤SE.length∧k≤6∧kk=J Y k∧Hid (wr.ownsRow W1.heap.size 72 3 v ((SE.take k).map (fN L u1 u2 u3 u4)).length (eT ((SE.take k).map (fN L u1 u2 u3 u4))))∧Hid (Below W1.heap.size W1 wr)) (fun _ kk _=>SE.length-(intOf kk).toNat)
 case atStart=>exact⟨0,by omega,by omega,rfl,HO,HW⟩
 case round=>
  clear HO HW;obtain⟨k,hk,hk6,rfl,HO,HW⟩:=hrel;by_cases hkn:k<SE.length
  ·by_cases hkm:k<6
   ·have hkn2:(k:Int)<(SE.length:Int):=by omega
    have hkm2:(k:Int)<6:=by omega
    have HSN1:=yz (yy HSN k hkm hkn);have hpl:((SE.take k).map (fN L u1 u2 u3 u4)).length=k:=by rw[List.length_map,List.length_take];omega
    obtain⟨g,ha,hg1,hg2,ci⟩:=tC (yy HR1) rfl hkn;subst ha;have hmem:SE.getD k 0∈SE:=by rw[List.getD_eq_getElem?_getD,List.getElem?_eq_getElem hkn];exact List.getElem_mem hkn
    obtain⟨p5,p18,prt,_,_⟩:=yy HPRE _ hmem;clear hmem;generalize SE.getD k 0=id at *;have HVV:Hid (fN L u1 u2 u3 u4 id=(wrap64 ((apV L u1 u2 u3 u4 id).1.tdiv (gI (apV L u1 u2 u3 u4 id).1 (apV L u1 u2 u3 u4 id).2.1 (apV L u1 u2 u3 u4 id).2.2)),wrap64 ((apV L u1 u2 u3 u4 id).2.1.tdiv (gI (apV L u1 u2 u3 u4 id).1 (apV L u1 u2 u3 u4 id).2.1 (apV L u1 u2 u3 u4 id).2.2)),wrap64 ((apV L u1 u2 u3 u4 id).2.2.tdiv (gI (apV L u1 u2 u3 u4 id).1 (apV L u1 u2 u3 u4 id).2.1 (apV L u1 u2 u3 u4 id).2.2)))):=yz (by unfold fN prI;rw[prt];rfl);have HAV:Hid (apV L u1 u2 u3 u4 id=(apX u1 u2 u3 u4 (atV L L.length id).1 (atV L L.length id).2.1 (atV L L.length id).2.2,apY u1 u2 u3 u4 (atV L L.length id).1 (atV L L.length id).2.1 (atV L L.length id).2.2,apZ u1 u2 u3 u4 (atV L L.length id).1 (atV L L.length id).2.1 (atV L L.length id).2.2)):=yz rfl;rw[yy HAV]at prt HVV;clear HAV;have cA1:=yz (fun W h=>yy cA W h id);generalize atV L L.length id=q at *;obtain⟨x,y,z⟩:=q;dsimp only at p18 prt HVV;have cT:=yz (fun W=>jY u1 u2 u3 u4 x y z W p5 p18);clear p5 p18;generalize apX u1 u2 u3 u4 x y z=q1 at *;generalize apY u1 u2 u3 u4 x y z=q2 at *;generalize apZ u1 u2 u3 u4 x y z=q3 at *;have cP:=yz (fun W=>jX q1 q2 q3 W prt);clear prt;generalize wrap64 (q1.tdiv (gI q1 q2 q3))=r1 at *;generalize wrap64 (q2.tdiv (gI q1 q2 q3))=r2 at *;generalize wrap64 (q3.tdiv (gI q1 q2 q3))=r3 at *;have HDr:=ap HD1 (yy HW);have d0:=(yy HDr).blk.cell 0 _ rfl;have d9:=(yy HDr).blk.cell 9 _ rfl;have d10:=(yy HDr).blk.cell 10 _ rfl;have d11:=(yy HDr).blk.cell 11 _ rfl;have d12:=(yy HDr).blk.cell 12 _ rfl;have dI:wr.cell? ⟨g,k,none⟩=some (J Y id):=by rw[(yy HW).cell hg2];exact ci
    have CZ:∀W:World,Below W1.heap.size W1 W→(W.cell? ⟨db,0,none⟩=some (.slice a L.length cap)∧W.cell? ⟨db,9,none⟩=some (J Y u1)∧W.cell? ⟨db,10,none⟩=some (J Y u2)∧W.cell? ⟨db,11,none⟩=some (J Y u3)∧W.cell? ⟨db,12,none⟩=some (J Y u4))∧W.cell? ⟨g,k,none⟩=some (J Y id):=fun W h=>⟨⟨by rw[h.cell hlt];exact(yy HD1).blk.cell 0 _ rfl,by rw[h.cell hlt];exact(yy HD1).blk.cell 9 _ rfl,by rw[h.cell hlt];exact(yy HD1).blk.cell 10 _ rfl,by rw[h.cell hlt];exact(yy HD1).blk.cell 11 _ rfl,by rw[h.cell hlt];exact(yy HD1).blk.cell 12 _ rfl⟩,by rw[h.cell hg2];exact ci⟩
    have HKS:=yz CZ;clear CZ;go_upto_region 6 with fail;refine wp_region_held_drew (S:=(fun w'=>(w'.cell? ⟨db,0,none⟩=some (.slice a L.length cap)∧w'.cell? ⟨db,9,none⟩=some (J Y u1)∧w'.cell? ⟨db,10,none⟩=some (J Y u2)∧w'.cell? ⟨db,11,none⟩=some (J Y u3)∧w'.cell? ⟨db,12,none⟩=some (J Y u4))∧w'.cell? ⟨g,k,none⟩=some (J Y id))) (by kernel_rfl) ⟨⟨d0,d9,d10,d11,d12⟩,dI⟩ (fun hHeld=>?_);refine ac 0 rfl ?_;try simp only[Act.put,ah,ai,aj]
    refine ac 1 rfl ?_;try simp only[Act.put,ah,ai,aj]
    refine ac 2 rfl ?_;try simp only[Act.put,ah,ai,aj]
    refine ac 3 rfl ?_;try simp only[Act.put,ah,ai,aj]
    refine ac 4 rfl ?_;try simp only[Act.put,ah,ai,aj]
    refine ac 5 rfl ?_;try simp only[Act.put,ah,ai,aj]
    refine ac 6 rfl ?_;try simp only[Act.put,ah,ai,aj]
    refine ac 7 rfl ?_;try simp only[Act.put,ah,ai,aj]
    refine ac 8 rfl ?_;try simp only[Act.put,ah,ai,aj]
    refine ac 9 rfl ?_;try simp only[Act.put,ah,ai,aj]
    refine ac 10 rfl ?_;try simp only[Act.put,ah,ai,aj]
    refine ac 11 rfl ?_;try simp only[Act.put,ah,ai,aj]
    refine ac 12 rfl ?_;try simp only[Act.put,ah,ai,aj]
    refine ac 13 rfl ?_;try simp only[Act.put,ah,ai,aj]
    clear d0 d9 d10 d11 d12 dI;have HWd:=yz (yy HW).drew;have HOd:=yz (bA (yy HO) (Below.refl _ _).drew);refine af 14 rfl fun K hK=>?_;go_simp;refine((yy cA1) wr.drew ((yy HB1).trans ((yy HWd).mono hsz1))).mono ?_;rintro e V1 ⟨rfl,hx⟩;have HW1:=yz ((yy HWd).trans (hx.mono (yy HWd).size));have HO1:=yz (bA (yy HOd) hx);clear hx HOd HWd;refine hK.out _ _ (yy HKS _ (yy HW1)) (fun hHeld1=>?_);clear hK K hHeld;simp only[vQ];refine af 15 rfl fun K hK=>?_;go_simp;refine((yy cT) V1).mono ?_;rintro e V2 ⟨rfl,hx⟩;have HW2:=yz ((yy HW1).trans (hx.mono (yy HW1).size));have HO2:=yz (bA (yy HO1) hx);clear hx HO1 HW1;refine hK.out _ _ (yy HKS _ (yy HW2)) (fun hHeld=>?_);clear hK K hHeld1;refine af 16 rfl fun K hK=>?_;go_simp;refine((yy cP) V2).mono ?_;rintro e V3 ⟨rfl,hx⟩;have HW3:=yz ((yy HW2).trans (hx.mono (yy HW2).size));have HO3:=yz (bA (yy HO2) hx);clear hx HO2 HW2;refine hK.out _ _ (yy HKS _ (yy HW3)) (fun hHeld1=>?_);clear hK K hHeld;refine af 17 rfl fun K hK=>?_;go_simp;have Z:=an V3 (.cells #[J Y r1,J Y r2,J Y r3] 72);have HW4:=yz ((yy HW3).trans (Z.mono (yy HW3).size));have hown:=bA (yy HO3) Z;have hs3:=(yy HW3).size;clear Z HO3 HW3;refine hK.out _ _ (yy HKS _ (yy HW4)) (fun hHeld=>?_);clear hK K hHeld1;refine af 18 rfl fun K hK=>?_;refine ye rfl _ _ 78 rfl W1.heap.size 72 i0 (.agg #[J Y 0,J Y 0,J Y 0]) 3 24 Tryz.underlying78 hinf hz0 hz1 hz2 rfl (by decide) _ _ _ rfl hown ⟨V3.heap.size,0,none⟩ 1 1 (eT [(r1,r2,r3)]) rfl rfl ?d2 (fun u hu=>qE hu) ?d3 ?d4 ?d5 ?_
    case d2=>first | exact fun j u h=>h | exact Dp _ _ _
    case d3=>omega
    case d4=>omega
    case d5=>simp;omega
    intro v7 V7 hown7 hgrow7;have HW7:=yz (oi (yy HW4) hgrow7 (yy HW4).size (fun q e=>(hown.lt q e).1));have HO7:Hid (V7.ownsRow W1.heap.size 72 3 v7 ((SE.take (k+1)).map (fN L u1 u2 u3 u4)).length (eT ((SE.take (k+1)).map (fN L u1 u2 u3 u4)))):=yz (by rw[yy HSN1,yy HVV,tm,List.length_append];exact hown7);clear hown7 hgrow7 hown HW4;refine hK.out _ _ (yy HKS _ (yy HW7)) (fun hHeld1=>?_);clear hK K hHeld;refine af 19 rfl fun K hK=>?_;go_simp;refine hK.out _ _ (yy HKS _ (yy HW7)) (fun hHeld=>?_);clear hK K hHeld1;refine wpAnyH_done (by kernel_rfl) ?_ _;clear hHeld;go_wp2_with fail;go_roundw
    case rel=>exact⟨k+1,by omega,by omega,by go_num,HO7,HW7⟩
    case measure=>simp[intOf]<;>omega
   ·have hke:k=6:=by omega
    subst hke;have hkn2:(6:Int)<(SE.length:Int):=by omega
    go_wp2_with fail;go_ret;rw[yy HSP];exact⟨⟨_,rfl,dm (yy HO) hsz1⟩,(yy HB1).trans ((yy HW).mono hsz1)⟩
  ·have hke:k=SE.length:=by omega
   subst hke;have e1:SE.take 6=SE.take SE.length:=by rw[List.take_of_length_le (by omega),List.take_of_length_le (by omega)]
   go_wp2_with fail;go_ret;rw[yy HSP,e1];exact⟨⟨_,rfl,dm (yy HO) hsz1⟩,(yy HB1).trans ((yy HW).mono hsz1)⟩
end
section
def aY(ids:List Int):Nat:=ids.countP (fun x=>decide (x≠0))
theorem ju(ids:List Int)(a:Int):aY (ids ++ [a])=aY ids+if a≠0 then 1 else 0:=by
 unfold aY;rw[List.countP_append,List.countP_singleton];by_cases h:a=0<;>simp[h]
def eN(F:List Int→Int→Bool)(A:List Int):Nat→List Int→List (List Int)
 | 0,ids=>[ids]
 | r+1,ids=>(A.filter (F ids)).flatMap (fun a=>eN F A r (ids ++ [a])) ++ eN F A r (ids ++ [0])
theorem mO(F:List Int→Int→Bool)(A:List Int):∀(r:Nat) (ids l:List Int),l∈eN F A r ids→aY l≤aY ids+r
 | 0,ids,l,h=>by
  simp only[eN,List.mem_singleton]at h;subst h;omega
 | r+1,ids,l,h=>by
  simp only[eN,List.mem_append,List.mem_flatMap]at h;rcases h with ⟨a,_,h⟩ | h
  ·have:=mO F A r _ l h;rw[ju]at this;split at this<;>omega
  ·have:=mO F A r _ l h;rw[ju]at this;simp at this;omega
structure SeN where
 best:List Int
 count:Nat
 many:Nat
def bM(s:SeN)(l:List Int):SeN:=
 if s.count<aY l then ⟨l,aY l,1⟩ else if aY l=s.count then ⟨l,s.count,s.many+1⟩ else s
theorem pw{s:SeN}{l:List Int}(h:aY l<s.count):bM s l=s:=by
 unfold bM;rw[if_neg (by omega),if_neg (by omega)]
theorem qG:∀(L:List (List Int)) (s:SeN),(∀l∈L,aY l<s.count)→L.foldl bM s=s
 | [],s,_=>rfl
 | l :: L,s,h=>by
  rw[List.foldl_cons,pw (h l (by simp))];exact qG L s (fun x hx=>h x (by simp[hx]))
def eI(F:List Int→Int→Bool)(A:List Int):Nat→List Int→SeN→SeN
 | 0,ids,s=>if aY ids+0<s.count then s else bM s ids
 | r+1,ids,s=>if aY ids+(r+1)<s.count then s else eI F A r (ids ++ [0]) (A.foldl (fun s a=>if F ids a=true then eI F A r (ids ++ [a]) s else s) s)
theorem pe{α β:Type}(p:α→Bool)(f:β→α→β):∀(L:List α) (s:β),L.foldl (fun s a=>if p a=true then f s a else s) s=(L.filter p).foldl f s
 | [],s=>rfl
 | a :: L,s=>by
  rw[List.foldl_cons,pe p f L];cases h:p a
  ·rw[List.filter_cons_of_neg (by simp[h])];simp
  ·rw[List.filter_cons_of_pos h];simp
theorem tq{α β γ:Type}(g:α→List γ)(f:β→γ→β):∀(L:List α) (s:β),(L.flatMap g).foldl f s=L.foldl (fun s a=>(g a).foldl f s) s
 | [],s=>rfl
 | a :: L,s=>by
  rw[List.flatMap_cons,List.foldl_append,tq g f L,List.foldl_cons]
theorem jx(F:List Int→Int→Bool)(A:List Int):∀(r:Nat) (ids:List Int) (s:SeN),eI F A r ids s=(eN F A r ids).foldl bM s
 | 0,ids,s=>by
  unfold eI eN;split
  ·rename_i h
   rw[List.foldl_cons,List.foldl_nil,pw (by omega)]
  ·rfl
 | r+1,ids,s=>by
  unfold eI;split
  ·rename_i h
   exact(qG _ s (fun l hl=>by have:=mO F A (r+1) ids l hl;omega)).symm
  ·rw[jx F A r,eN,List.foldl_append,tq,←pe (F ids) (fun s a=>(eN F A r (ids ++ [a])).foldl bM s) A s];congr 1
   congr 1
   funext s a
   rw[jx F A r]
def dE(g:List Int×Nat)(l:List Int):List Int×Nat:=
 if aY l<3∨aY l<aY g.1 then g else if aY g.1<aY l then (l,1) else (g.1,g.2+1)
def sP(s:SeN)(g:List Int×Nat):Prop:=
 (s.many=0∧s.count=3∧g=([],0))∨(1≤s.many∧3≤s.count∧aY g.1=s.count∧g.2=s.many∧(s.many=1→s.best=g.1))
theorem zr{s:SeN}{g:List Int×Nat}(h:sP s g)(l:List Int):sP (bM s l) (dE g l):=by
 rcases h with ⟨h1,h2,rfl⟩ | ⟨h1,h2,h3,h4,h5⟩
 ·have h0:aY ([]:List Int)=0:=rfl;unfold bM dE;simp only[h0];by_cases c:aY l<3
  ·rw[if_neg (by omega),if_neg (by omega),if_pos (by omega)];exact .inl ⟨h1,h2,rfl⟩
  ·rw[if_neg (show ¬(aY l<3∨aY l<0) by omega),if_pos (show 0<aY l by omega)];by_cases c2:s.count<aY l
   ·rw[if_pos c2];exact .inr ⟨Nat.le_refl _,by show 3≤aY l;omega,rfl,rfl,fun _=>rfl⟩
   ·rw[if_neg c2,if_pos (by omega)];exact .inr ⟨by show 1≤s.many+1;omega,by show 3≤s.count;omega,by show aY l=s.count;omega,by show 1=s.many+1;omega,fun _=>rfl⟩
 ·unfold bM dE;by_cases c:aY l<s.count
  ·rw[if_neg (by omega),if_neg (by omega),if_pos (by omega)];exact .inr ⟨h1,h2,h3,h4,h5⟩
  ·rw[if_neg (show ¬(aY l<3∨aY l<aY g.1) by omega)];by_cases c2:s.count<aY l
   ·rw[if_pos c2,if_pos (show aY g.1<aY l by omega)];exact .inr ⟨Nat.le_refl _,by show 3≤aY l;omega,rfl,rfl,fun _=>rfl⟩
   ·rw[if_neg c2,if_pos (by omega),if_neg (show ¬aY g.1<aY l by omega)];exact .inr ⟨by show 1≤s.many+1;omega,h2,h3,by show g.2+1=s.many+1;omega,fun e=>by have e':s.many+1=1:=e;omega⟩
theorem rx:∀(L:List (List Int)) {s:SeN} {g:List Int×Nat},sP s g→sP (L.foldl bM s) (L.foldl dE g)
 | [],_,_,h=>h
 | l :: L,_,_,h=>rx L (zr h l)
theorem BP(F:List Int→Int→Bool)(A:List Int)(n:Nat):sP (eI F A n [] ⟨[],3,0⟩) ((eN F A n []).foldl dE ([],0)):=by
 rw[jx];exact rx _ (.inl ⟨rfl,rfl,rfl⟩)
theorem yf(s:SeN)(l:List Int):(bM s l).many≤s.many+1:=by
 unfold bM;split
 ·show 1≤s.many+1;omega
 ·split
  ·exact Nat.le_refl _
  ·omega
theorem oZ:∀(L:List (List Int)) (s:SeN),(L.foldl bM s).many≤s.many+L.length
 | [],s=>Nat.le_refl _
 | l :: L,s=>by
  rw[List.foldl_cons,List.length_cons];have h1:=oZ L (bM s l);have h2:=yf s l;omega
theorem wB{α β:Type}(f:α→List β)(c:Nat)(hf:∀a,(f a).length≤c):∀L:List α,(L.flatMap f).length≤L.length*c
 | []=>by simp
 | a :: L=>by
  rw[List.flatMap_cons,List.length_append,List.length_cons,Nat.succ_mul];have:=hf a;have:=wB f c hf L;omega
theorem mP(F:List Int→Int→Bool)(A:List Int)(hA:A.length≤12):∀(r:Nat) (ids:List Int),(eN F A r ids).length≤13 ^ r
 | 0,ids=>by simp[eN]
 | r+1,ids=>by
  unfold eN;rw[List.length_append];have h1:=wB (fun a=>eN F A r (ids ++ [a])) (13 ^ r) (fun a=>mP F A hA r _) (A.filter (F ids));have h2:=mP F A hA r (ids ++ [0]);have h3:(A.filter (F ids)).length≤12:=Nat.le_trans (List.length_filter_le _ _) hA;have h4:(A.filter (F ids)).length*13 ^ r≤12*13 ^ r:=Nat.mul_le_mul_right _ h3;rw[Nat.pow_succ];omega
theorem yJ(F:List Int→Int→Bool)(A:List Int)(hA:A.length≤12)(r:Nat)(ids:List Int)(s:SeN):(eI F A r ids s).many≤s.many+13 ^ r:=by
 rw[jx];have h1:=oZ (eN F A r ids) s;have h2:=mP F A hA r ids;omega
def fL(F:List Int→Int→Bool)(A:List Int)(r:Nat)(ids:List Int)(s:SeN)(i:Nat):SeN:=(A.take i).foldl (fun s a=>if F ids a=true then eI F A r (ids ++ [a]) s else s) s
theorem qW(F:List Int→Int→Bool)(A:List Int)(r:Nat)(ids:List Int)(s:SeN):fL F A r ids s 0=s:=rfl
theorem kh(F:List Int→Int→Bool)(A:List Int)(r:Nat)(ids:List Int)(s:SeN){i:Nat}(hi:i<A.length):fL F A r ids s (i+1)=if F ids (A.getD i 0)=true then eI F A r (ids ++ [A.getD i 0]) (fL F A r ids s i) else fL F A r ids s i:=by
 unfold fL;rw[List.take_succ_eq_append_getElem hi,List.foldl_append];have e:A.getD i 0=A[i]:=by rw[List.getD_eq_getElem?_getD,List.getElem?_eq_getElem hi];rfl
 rw[e];rfl
theorem qV(F:List Int→Int→Bool)(A:List Int)(hA:A.length≤12)(r:Nat)(ids:List Int)(s:SeN):∀i,i≤A.length→(fL F A r ids s i).many≤s.many+i*13 ^ r
 | 0,_=>by rw[qW];omega
 | i+1,h=>by
  rw[kh F A r ids s (by omega),Nat.succ_mul];have h1:=qV F A hA r ids s i (by omega);split
  ·have h2:=yJ F A hA r (ids ++ [A.getD i 0]) (fL F A r ids s i);generalize 13 ^ r=p at *;omega
  ·generalize 13 ^ r=p at *;omega
variable {ids:List Int} {r:Nat}
theorem wF{F:List Int→Int→Bool}{A:List Int}{s:SeN}(h:aY ids+r<s.count):eI F A r ids s=s:=by
 cases r with
 | zero=>unfold eI;rw[if_pos h]
 | succ r=>unfold eI;rw[if_pos h]
theorem yI{F:List Int→Int→Bool}{A:List Int}{s:SeN}(h:¬aY ids+0<s.count):eI F A 0 ids s=bM s ids:=by unfold eI;rw[if_neg h]
theorem yK{F:List Int→Int→Bool}{A:List Int}{s:SeN}(h:¬aY ids+(r+1)<s.count):eI F A (r+1) ids s=eI F A r (ids ++ [0]) (fL F A r ids s A.length):=by
 rw[eI,if_neg h];unfold fL;rw[List.take_length]
theorem lh(ids:List Int):aY ids≤ids.length:=List.countP_le_length
theorem vH(s:SeN)(l:List Int):(bM s l).count≤max s.count (aY l):=by
 unfold bM;split
 ·show aY l≤_;omega
 ·split
  ·show s.count≤_;omega
  ·omega
end
section
open Go.Value renaming int → J
open Go.IntKind renaming i64 → Y
open Go.RowKit Go.Sort
def sgL(s:Sg):List Value:=[J Y s.1.1,J Y s.1.2.1,J Y s.1.2.2,J Y s.2.1,J Y s.2.2.1,J Y s.2.2.2.1,J Y s.2.2.2.2]
def sgV(s:Sg):Value:=.agg #[J Y s.1.1,J Y s.1.2.1,J Y s.1.2.2,J Y s.2.1,J Y s.2.2.1,J Y s.2.2.2.1,J Y s.2.2.2.2]
def qh(w:World)(b o:Nat)(s:Sg):Prop:=w.cell? ⟨b,o,none⟩=some (J Y s.1.1)∧w.cell? ⟨b,o+1,none⟩=some (J Y s.1.2.1)∧w.cell? ⟨b,o+2,none⟩=some (J Y s.1.2.2)∧w.cell? ⟨b,o+3,none⟩=some (J Y s.2.1)∧w.cell? ⟨b,o+4,none⟩=some (J Y s.2.2.1)∧w.cell? ⟨b,o+5,none⟩=some (J Y s.2.2.2.1)∧w.cell? ⟨b,o+6,none⟩=some (J Y s.2.2.2.2)
variable {o:Nat} {w w':World}
theorem qh.lt{b:Nat}{s:Sg}(h:qh w b o s):b<w.heap.size:=World.block_lt_of_cell? w _ h.1
theorem qh.kept{b:Nat}{s:Sg}(h:qh w b o s)(hB:Below w.heap.size w w'):qh w' b o s:=by
 have hb:=h.lt;obtain⟨h0,h1,h2,h3,h4,h5,h6⟩:=h;exact⟨by rw[hB.cell (p:=⟨b,o,none⟩) hb];exact h0,by rw[hB.cell (p:=⟨b,o+1,none⟩) hb];exact h1,by rw[hB.cell (p:=⟨b,o+2,none⟩) hb];exact h2,by rw[hB.cell (p:=⟨b,o+3,none⟩) hb];exact h3,by rw[hB.cell (p:=⟨b,o+4,none⟩) hb];exact h4,by rw[hB.cell (p:=⟨b,o+5,none⟩) hb];exact h5,by rw[hB.cell (p:=⟨b,o+6,none⟩) hb];exact h6⟩
theorem gw(w:World)(s:Sg)(t:TypeId):qh (w.alloc (.cells #[J Y s.1.1,J Y s.1.2.1,J Y s.1.2.2,J Y s.2.1,J Y s.2.2.1,J Y s.2.2.2.1,J Y s.2.2.2.2] t)) w.heap.size 0 s:=by
 refine⟨?_,?_,?_,?_,?_,?_,?_⟩<;>simp
def fD(w:World)(a:Option Addr)(A:List Sg)(n:Nat):Prop:=n=0∨∃b o,a=some ⟨b,o,none⟩∧b<w.heap.size∧∀i,i<n→qh w b (o+i*7) (sgA A i)
theorem fD.kept{a:Option Addr}{A:List Sg}{n:Nat}(h:fD w a A n)(hB:Below w.heap.size w w'):fD w' a A n:=by
 rcases h with h | ⟨b,o,ha,hb,hc⟩
 ·exact .inl h
 ·exact .inr ⟨b,o,ha,Nat.lt_of_lt_of_le hb hB.size,fun i hi=>(hc i hi).kept hB⟩
theorem fD.less{a:Option Addr}{A:List Sg}{n m:Nat}(h:fD w a A n)(hm:m≤n):fD w a A m:=by
 rcases h with h | ⟨b,o,ha,hb,hc⟩
 ·exact .inl (by omega)
 ·exact .inr ⟨b,o,ha,hb,fun i hi=>hc i (by omega)⟩
theorem wS(s t:Sg)(w:World):
  Calls Tryz.prog 194 #[sgV s,sgV t] w fun e w'=>e=.returned (.bool (kv s t))∧Below w.heap.size w w':=by
 obtain⟨⟨a1,a2,a3⟩,a4,a5,a6,a7⟩:=s;obtain⟨⟨b1,b2,b3⟩,b4,b5,b6,b7⟩:=t;unfold sgV kv;simp only;have HB:=yz (aX w (.cells #[J Y a1,J Y a2,J Y a3,J Y a4,J Y a5,J Y a6,J Y a7] 238) (.cells #[J Y b1,J Y b2,J Y b3,J Y b4,J Y b5,J Y b6,J Y b7] 238));go_enter Tryz.func194,Tryz.ntmps194;go_wp2_with fail;refine(yx b1 b2 b3 a1 a2 a3 b5 b6 b7 a5 a6 a7 _).mono ?_;rintro e w1 ⟨rfl,hx⟩;have HB1:=ax HB hx;clear hx;go_wp2_with fail;go_ret;exact⟨rfl,yy HB1⟩
theorem uG(s f g:Sg)(w:World):
  Calls Tryz.prog 195 #[sgV s,sgV f,sgV g] w fun e w'=>e=.returned (.bool (dW s f g))∧Below w.heap.size w w':=by
 have A0:=((gw w s 238).kept (an _ (.cells #[J Y f.1.1,J Y f.1.2.1,J Y f.1.2.2,J Y f.2.1,J Y f.2.2.1,J Y f.2.2.2.1,J Y f.2.2.2.2] 238))).kept (an _ (.cells #[J Y g.1.1,J Y g.1.2.1,J Y g.1.2.2,J Y g.2.1,J Y g.2.2.1,J Y g.2.2.2.1,J Y g.2.2.2.2] 238));have F0:=(gw (w.alloc (.cells #[J Y s.1.1,J Y s.1.2.1,J Y s.1.2.2,J Y s.2.1,J Y s.2.2.1,J Y s.2.2.2.1,J Y s.2.2.2.2] 238)) f 238).kept (an _ (.cells #[J Y g.1.1,J Y g.1.2.1,J Y g.1.2.2,J Y g.2.1,J Y g.2.2.1,J Y g.2.2.2.1,J Y g.2.2.2.2] 238));have G0:=gw ((w.alloc (.cells #[J Y s.1.1,J Y s.1.2.1,J Y s.1.2.2,J Y s.2.1,J Y s.2.2.1,J Y s.2.2.2.1,J Y s.2.2.2.2] 238)).alloc (.cells #[J Y f.1.1,J Y f.1.2.1,J Y f.1.2.2,J Y f.2.1,J Y f.2.2.1,J Y f.2.2.2.1,J Y f.2.2.2.2] 238)) g 238;have B0:=eC w (.cells #[J Y s.1.1,J Y s.1.2.1,J Y s.1.2.2,J Y s.2.1,J Y s.2.2.1,J Y s.2.2.2.1,J Y s.2.2.2.2] 238) (.cells #[J Y f.1.1,J Y f.1.2.1,J Y f.1.2.2,J Y f.2.1,J Y f.2.2.1,J Y f.2.2.2.1,J Y f.2.2.2.2] 238) (.cells #[J Y g.1.1,J Y g.1.2.1,J Y g.1.2.2,J Y g.2.1,J Y g.2.2.1,J Y g.2.2.2.1,J Y g.2.2.2.2] 238);have e1:(w.alloc (.cells #[J Y s.1.1,J Y s.1.2.1,J Y s.1.2.2,J Y s.2.1,J Y s.2.2.1,J Y s.2.2.2.1,J Y s.2.2.2.2] 238)).heap.size=w.heap.size+1:=by simp
 have e2:((w.alloc (.cells #[J Y s.1.1,J Y s.1.2.1,J Y s.1.2.2,J Y s.2.1,J Y s.2.2.1,J Y s.2.2.2.1,J Y s.2.2.2.2] 238)).alloc (.cells #[J Y f.1.1,J Y f.1.2.1,J Y f.1.2.2,J Y f.2.1,J Y f.2.2.1,J Y f.2.2.2.1,J Y f.2.2.2.2] 238)).heap.size=w.heap.size+1+1:=by simp
 rw[e1]at F0;rw[e2]at G0;clear e1 e2;obtain⟨⟨a1,a2,a3⟩,a4,a5,a6,a7⟩:=s;obtain⟨⟨b1,b2,b3⟩,b4,b5,b6,b7⟩:=f;obtain⟨⟨c1,c2,c3⟩,c4,c5,c6,c7⟩:=g;unfold sgV dW rX;simp only at A0 F0 G0 B0 ⊢;have cD:=yz (fun W=>zU b1 b2 b3 c1 c2 c3 a1 a2 a3 W);have cE:=yz (fun W=>zU b5 b6 b7 c5 c6 c7 a5 a6 a7 W);generalize rY b1 b2 b3 c1 c2 c3 a1 a2 a3=d1 at *;generalize rY b5 b6 b7 c5 c6 c7 a5 a6 a7=d2 at *;have cO:=yz (fun W=>oK d1 0 W);have cP:=yz (fun W=>oK d2 0 W);generalize ic d1 0=o1 at *;generalize ic d2 0=o2 at *;go_enter Tryz.func195,Tryz.ntmps195;go_wp2_with fail;generalize ((w.alloc (.cells #[J Y a1,J Y a2,J Y a3,J Y a4,J Y a5,J Y a6,J Y a7] 238)).alloc (.cells #[J Y b1,J Y b2,J Y b3,J Y b4,J Y b5,J Y b6,J Y b7] 238)).alloc (.cells #[J Y c1,J Y c2,J Y c3,J Y c4,J Y c5,J Y c6,J Y c7] 238)=W0 at A0 F0 G0 B0 ⊢;refine(yy cD _).mono ?_;rintro e w1 ⟨rfl,hx⟩;have A1:=A0.kept hx;have F1:=F0.kept hx;have G1:=G0.kept hx;have B1:=ak B0 hx;clear hx A0 F0 G0 B0;go_wp2_with fail;refine(yy cO _).mono ?_;rintro e w2 ⟨rfl,rfl⟩;obtain⟨x0,x1,x2,x3,x4,x5,x6⟩:=A1;obtain⟨y0,y1,y2,y3,y4,y5,y6⟩:=F1;obtain⟨z0,z1,z2,z3,z4,z5,z6⟩:=G1;simp only[Nat.zero_add]at x0 x1 x2 x3 x4 x5 x6 y0 y1 y2 y3 y4 y5 y6 z0 z1 z2 z3 z4 z5 z6;go_wp2_with fail;refine(yy cE _).mono ?_;rintro e w3 ⟨rfl,hx⟩;have B2:=ak B1 hx;clear hx x0 x1 x2 x3 x4 x5 x6 y0 y1 y2 y3 y4 y5 y6 z0 z1 z2 z3 z4 z5 z6 B1;go_wp2_with fail;refine(yy cP _).mono ?_;rintro e w4 ⟨rfl,rfl⟩;go_wp2_with fail;go_ret;exact⟨by first | rfl | simp[go_sem],B2⟩
theorem kH(A:List Sg)(n:Nat)(s:Sg)(a:Option Addr)(c:Nat)(w:World)(hn:n≤1048576)(hcap:n≤c)(hc9:c≤9223372036854775807)(hS:fD w a A n):
  Calls Tryz.prog 182 #[sgV s,.slice a n c] w fun e w'=>e=.returned (.bool (eH A s n))∧Below w.heap.size w w':=by
 have cF:Hid (∀(t:Sg) (W:World),Calls Tryz.prog 194 #[sgV s,sgV t] W fun e w'=>e=.returned (.bool (kv s t))∧Below W.heap.size W w'):=yz (fun t W=>wS s t W);have cS:Hid (∀(f g:Sg) (W:World),Calls Tryz.prog 195 #[sgV s,sgV f,sgV g] W fun e w'=>e=.returned (.bool (dW s f g))∧Below W.heap.size W w'):=yz (fun f g W=>uG s f g W);have V0:=yz (gw w s 238);have B0:=yz (an w (.cells #[J Y s.1.1,J Y s.1.2.1,J Y s.1.2.2,J Y s.2.1,J Y s.2.2.1,J Y s.2.2.2.1,J Y s.2.2.2.2] 238));obtain⟨⟨a1,a2,a3⟩,a4,a5,a6,a7⟩:=s;simp only at V0 B0;have cF':Hid (∀(t:Sg) (W:World),Calls Tryz.prog 194 #[.agg #[J Y a1,J Y a2,J Y a3,J Y a4,J Y a5,J Y a6,J Y a7],sgV t] W fun e w'=>e=.returned (.bool (kv ((a1,a2,a3),a4,a5,a6,a7) t))∧Below W.heap.size W w'):=cF;have cS':Hid (∀(f g:Sg) (W:World),Calls Tryz.prog 195 #[.agg #[J Y a1,J Y a2,J Y a3,J Y a4,J Y a5,J Y a6,J Y a7],sgV f,sgV g] W fun e w'=>e=.returned (.bool (dW ((a1,a2,a3),a4,a5,a6,a7) f g))∧Below W.heap.size W w'):=cS;clear cF cS;show Calls Tryz.prog 182 #[.agg #[J Y a1,J Y a2,J Y a3,J Y a4,J Y a5,J Y a6,J Y a7],.slice a n c] w _;rcases hS with rfl | ⟨b,o,rfl,hb,hc⟩
 ·go_enter Tryz.func182,Tryz.ntmps182;go_wp2_with fail;refine wp_loop_rounds 1 ?_;rw[rounds_succ];go_wp2_with fail;go_ret;exact⟨rfl,yy B0⟩
 have HC:=yz hc;clear hc;obtain⟨sg,hsg⟩:∃sg:Sg,sg=((a1,a2,a3),a4,a5,a6,a7):=⟨_,rfl⟩
 rw[←hsg]at cF' cS' V0;rw[←hsg];have HSG:=yz hsg;clear hsg;go_enter Tryz.func182,Tryz.ntmps182;go_wp2_with fail;go_loopw [11] (fun i wr=>∃k:Nat,k≤n∧i=J Y k∧Hid (∀j,j<k→fm A sg j=true)∧Hid (Below w.heap.size w wr)∧Hid (qh wr w.heap.size 0 sg)) (fun i _=>n-(intOf i).toNat)
 case atStart=>exact⟨0,by omega,rfl,yz (fun j hj=>absurd hj (Nat.not_lt_zero _)),B0,V0⟩
 case round=>
  clear B0 V0;obtain⟨k,hk,rfl,HF,HB,HV⟩:=hrel;by_cases hkn:k<n
  ·have hkn2:(k:Int)<(n:Int):=by omega
   obtain⟨t,ht⟩:∃t,sgA A k=t:=⟨_,rfl⟩
   have hst:=((yy HC) k hkn).kept (yy HB);rw[ht]at hst;have HT:=yz ht;clear ht;have cFt:=yz (yy cF' t);have cSt:=yz (fun f W=>yy cS' f t W);have HFA:Hid (∀b,kv sg t=b→kv sg (sgA A k)=b):=yz (fun b h=>by rw[yy HT];exact h);have HID:Hid (sg.2.1=a4):=yz (by rw[yy HSG]);have HTI:Hid ((sgA A k).2.1=t.2.1):=yz (by rw[yy HT]);have Z:=an wr (.cells #[J Y t.1.1,J Y t.1.2.1,J Y t.1.2.2,J Y t.2.1,J Y t.2.2.1,J Y t.2.2.2.1,J Y t.2.2.2.2] 238);have T1:=yz (gw wr t 238);have HB1:=ax HB Z;have HV1:=ap HV Z;clear Z HB HV;obtain⟨⟨b1,b2,b3⟩,b4,b5,b6,b7⟩:=t;have cFt':Hid (∀(W:World),Calls Tryz.prog 194 #[.agg #[J Y a1,J Y a2,J Y a3,J Y a4,J Y a5,J Y a6,J Y a7],.agg #[J Y b1,J Y b2,J Y b3,J Y b4,J Y b5,J Y b6,J Y b7]] W fun e w'=>e=.returned (.bool (kv sg ((b1,b2,b3),b4,b5,b6,b7)))∧Below W.heap.size W w'):=cFt;have cSt':Hid (∀(f:Sg) (W:World),Calls Tryz.prog 195 #[.agg #[J Y a1,J Y a2,J Y a3,J Y a4,J Y a5,J Y a6,J Y a7],sgV f,.agg #[J Y b1,J Y b2,J Y b3,J Y b4,J Y b5,J Y b6,J Y b7]] W fun e w'=>e=.returned (.bool (dW sg f ((b1,b2,b3),b4,b5,b6,b7)))∧Below W.heap.size W w'):=cSt;clear cFt cSt;have HTI':Hid ((sgA A k).2.1=b4):=HTI;clear HTI;obtain⟨c0,c1,c2,c3,c4,c5,c6⟩:=hst;simp only at c0 c1 c2 c3 c4 c5 c6 T1 HB1 HV1;obtain⟨tg,htg⟩:∃sg:Sg,sg=((b1,b2,b3),b4,b5,b6,b7):=⟨_,rfl⟩
   rw[←htg]at cFt' cSt' T1 HFA HT;have HTG:=yz htg;clear htg;obtain⟨v0,v1,v2,v3,v4,v5,v6⟩:=yy HV1;obtain⟨x0,x1,x2,x3,x4,x5,x6⟩:=yy T1;rw[yy HSG]at v0 v1 v2 v3 v4 v5 v6;rw[yy HTG]at x0 x1 x2 x3 x4 x5 x6;simp only[Nat.zero_add]at v0 v1 v2 v3 v4 v5 v6 x0 x1 x2 x3 x4 x5 x6;by_cases hid:a4=b4
   ·subst hid;have HNO:=yz (ux (A:=A) (s:=sg) hkn (By (by rw[yy HID,yy HTI'])));go_wp2_with fail;go_ret;exact⟨by rw[yy HNO];rfl,yy HB1⟩
   have hid':(a4==b4)=false:=by simp[hid]
   go_wp2_with fail;clear c0 c1 c2 c3 c4 c5 c6 v0 v1 v2 v3 v4 v5 v6 x0 x1 x2 x3 x4 x5 x6;generalize wr.alloc (.cells #[J Y b1,J Y b2,J Y b3,J Y b4,J Y b5,J Y b6,J Y b7] 238)=W1 at T1 HB1 HV1 ⊢;generalize wr.heap.size=tb at *;refine(yy cFt' _).mono ?_;rintro e W2 ⟨rfl,hx⟩;have T2:=ap T1 hx;have HB2:=ax HB1 hx;have HV2:=ap HV1 hx;clear hx T1 HB1 HV1;cases hfar:kv sg tg
   ·have HNO:=yz (ux (A:=A) (s:=sg) hkn (zj (yy HFA _ hfar)));go_wp2_with fail;go_ret;exact⟨by rw[yy HNO];rfl,yy HB2⟩
   have HFT:=yz (yy HFA _ hfar);have hkc:(k:Int)≤(c:Int):=by omega
   clear hfar HFA cFt';go_wp2_with fail;go_loopw [33] (fun i wr=>∃j:Nat,j≤k∧i=J Y j∧Hid (∀l,l<j→dW sg (sgA A l) tg=true)∧Hid (Below w.heap.size w wr)∧Hid (qh wr w.heap.size 0 sg)∧Hid (qh wr tb 0 tg)) (fun i _=>k-(intOf i).toNat)
   case atStart=>exact⟨0,by omega,rfl,yz (fun j hj=>absurd hj (Nat.not_lt_zero _)),HB2,HV2,T2⟩
   case round=>
    clear HB2 HV2 T2;obtain⟨j,hj,rfl,HL,HB,HV,HT2⟩:=hrel;by_cases hjk:j<k
    ·have hjk2:(j:Int)<(k:Int):=by omega
     obtain⟨f,hf⟩:∃t,sgA A j=t:=⟨_,rfl⟩
     have hst:=((yy HC) j (by omega)).kept (yy HB);rw[hf]at hst;have HFE:=yz hf;clear hf;have cSf:=yz (yy cSt' f);have Z:=an wr (.cells #[J Y f.1.1,J Y f.1.2.1,J Y f.1.2.2,J Y f.2.1,J Y f.2.2.1,J Y f.2.2.2.1,J Y f.2.2.2.2] 238);have F1:=gw wr f 238;have HB1:=ax HB Z;have HV1:=ap HV Z;have HT3:=ap HT2 Z;clear Z HB HV HT2;have HSB:Hid (dW sg (sgA A j) tg=dW sg f tg):=yz (by rw[yy HFE]);have HSC:Hid (dW sg (sgA A j) (sgA A k)=dW sg f tg):=yz (by rw[yy HFE,yy HT]);have cSg:Hid (∀(W:World),Calls Tryz.prog 195 #[.agg #[J Y a1,J Y a2,J Y a3,J Y a4,J Y a5,J Y a6,J Y a7],sgV f,.agg #[J Y b1,J Y b2,J Y b3,J Y b4,J Y b5,J Y b6,J Y b7]] W fun e w'=>e=.returned (.bool (dW sg f tg))∧Below W.heap.size W w'):=cSf;clear cSf;generalize dW sg f tg=sb at *;obtain⟨⟨f1,f2,f3⟩,f4,f5,f6,f7⟩:=f;have cSh:Hid (∀(W:World),Calls Tryz.prog 195 #[.agg #[J Y a1,J Y a2,J Y a3,J Y a4,J Y a5,J Y a6,J Y a7],.agg #[J Y f1,J Y f2,J Y f3,J Y f4,J Y f5,J Y f6,J Y f7],.agg #[J Y b1,J Y b2,J Y b3,J Y b4,J Y b5,J Y b6,J Y b7]] W fun e w'=>e=.returned (.bool sb)∧Below W.heap.size W w'):=cSg;clear cSg;obtain⟨c0,c1,c2,c3,c4,c5,c6⟩:=hst;simp only at c0 c1 c2 c3 c4 c5 c6 F1 HB1 HV1 HT3;obtain⟨v0,v1,v2,v3,v4,v5,v6⟩:=yy HV1;obtain⟨x0,x1,x2,x3,x4,x5,x6⟩:=yy HT3;obtain⟨y0,y1,y2,y3,y4,y5,y6⟩:=F1;rw[yy HSG]at v0 v1 v2 v3 v4 v5 v6;rw[yy HTG]at x0 x1 x2 x3 x4 x5 x6;simp only[Nat.zero_add]at v0 v1 v2 v3 v4 v5 v6 x0 x1 x2 x3 x4 x5 x6 y0 y1 y2 y3 y4 y5 y6;go_wp2_with fail;clear c0 c1 c2 c3 c4 c5 c6 v0 v1 v2 v3 v4 v5 v6 x0 x1 x2 x3 x4 x5 x6 y0 y1 y2 y3 y4 y5 y6;refine(yy cSh _).mono ?_;rintro e W4 ⟨rfl,hx⟩;have HB4:=ax HB1 hx;have HV4:=ap HV1 hx;have HT4:=ap HT3 hx;clear hx HB1 HV1 HT3;cases sb
     ·have HNO:=yz (ux (A:=A) (s:=sg) hkn (xD hjk (yy HSC)));go_wp2_with fail;go_ret;exact⟨by rw[yy HNO];rfl,yy HB4⟩
     ·go_wp2_with fail;go_roundw
      case rel=>exact⟨j+1,by omega,by go_num,yz (fun l hl=>by
       by_cases e:l=j
       ·rw[e];exact yy HSB
       ·exact yy HL l (by omega)),HB4,HV4,HT4⟩
      case measure=>simp[intOf];omega
    ·have hjk':j=k:=by omega
     subst hjk';have HOK:Hid (fm A sg j=true):=yz (zk (by rw[yy HID,yy HTI'];exact hid) (yy HFT) (fun l hl=>by rw[yy HT];exact yy HL l hl));go_wp2_with fail;go_roundw
     case rel=>exact⟨j+1,by omega,by go_num,yz (fun l hl=>by
      by_cases e:l=j
      ·rw[e];exact yy HOK
      ·exact yy HF l (by omega)),HB,HV⟩
     case measure=>simp[intOf];omega
  ·have hkn':k=n:=by omega
   subst hkn';have HY:=yz (CL (A:=A) (s:=sg) (yy HF));go_wp2_with fail;go_ret;exact⟨by rw[yy HY];rfl,yy HB⟩
end
section
open Go.RowKit Go.Sort
def uh(w:World)(b n:Nat)(L:List D3)(k:Nat):Prop:=∃cur:Array Value,w.heap[b]? = some (.cells cur 72 (0,0))∧cur.size=n*3 ∧
 ∀j,j<k→cur[j*3]? = some (.int .i64 (vA L j).1)∧cur[j*3+1]? = some (.int .i64 (vA L j).2.1)∧cur[j*3+2]? = some (.int .i64 (vA L j).2.2)
variable {w:World}
theorem uh.lt{b n k:Nat}{L:List D3}(h:uh w b n L k):b<w.heap.size:=by
 obtain⟨cur,hc,_⟩:=h;exact(Array.getElem?_eq_some_iff.1 hc).1
theorem uh.kept{w':World}{b n k:Nat}{L:List D3}(h:uh w b n L k)(hB:Below w.heap.size w w'):uh w' b n L k:=by
 have hl:=h.lt;obtain⟨cur,hc,r⟩:=h;exact⟨cur,by rw[hB.block b hl];exact hc,r⟩
theorem uh.dirs{b n k:Nat}{L:List D3}(h:uh w b n L k):dh w (some ⟨b,0,none⟩) L k:=by
 have hl:=h.lt;obtain⟨cur,hc,_,hs⟩:=h;refine .inr ⟨b,0,rfl,hl,fun i hi=>?_⟩;obtain⟨h0,h1,h2⟩:=hs i hi;rw[Nat.zero_add];exact⟨by rw[cell_of_row w b _ cur _ _ hc];exact h0,by rw[cell_of_row w b _ cur _ _ hc];exact h1,by rw[cell_of_row w b _ cur _ _ hc];exact h2⟩
theorem uh.free{b n k:Nat}{L:List D3}(h:uh w b n L k)(i:Nat):w.frozen? ⟨b,i,none⟩=false:=by
 obtain⟨cur,hc,_⟩:=h;exact frozen_of_row w b i cur _ hc
def hU(w:World)(a:Option Addr)(ids:List Int)(n:Nat):Prop:=n=0∨∃b o,a=some ⟨b,o,none⟩∧b<w.heap.size∧∀i,i<n→w.cell? ⟨b,o+i,none⟩=some (.int .i64 (ids.getD i 0))
variable {w:World}
theorem hU.kept{w':World}{a:Option Addr}{L:List Int}{n:Nat}(h:hU w a L n)(hB:Below w.heap.size w w'):hU w' a L n:=by
 rcases h with h | ⟨b,o,ha,hb,hc⟩
 ·exact .inl h
 ·exact .inr ⟨b,o,ha,Nat.lt_of_lt_of_le hb hB.size,fun i hi=>by rw[hB.cell (p:=⟨b,o+i,none⟩) hb];exact hc i hi⟩
def rg(ids:List Int)(j:Nat):Value:=.int .i64 (ids.getD j 0)
theorem nw{g n:Nat}{ids:List Int}(h:dz w 2 g (n*1) (rg ids)):hU w (some ⟨g,0,none⟩) ids n:=
 .inr ⟨g,0,rfl,h.lt,fun i hi=>by rw[Nat.zero_add];exact h.cell (by omega)⟩
end
section
open Go.Value renaming int → J
open Go.IntKind renaming i64 → Y
open Go.RowKit Go.Sort
variable {v:Value} {w w':World}
theorem nS{P:Program}{ops:Array Oper}{o:Oper}{a:Act}{K:Act→World→Prop}{Q:Exit→Act→World→Prop}{E:Prop}(hgd:o.guard=none)(s x:Operand)(t:TypeId)
  (ho:o.op=.call { callee:=.builtin .append,args:=#[s,x],argTypes:=#[t,t] })
  (base:Nat) (e:TypeId) (i:TypeInfo) (z:Value) (size bytes:Nat) (ht:P.underlying t=some (.slice e)) (hi:P.info? e=some i) (hz:i.zero=some z)
  (hsize:i.size=size) (hby:i.bytes=bytes) (hzs:z.cells.size=size) (hsz:0<size)
  (v:Value) (n:Nat) (xs:List Value) (hs:a.eval s=v) (hown:w.ownsRow base e size v n xs)
  (ad:Addr) (m c:Nat) (news:List Value) (hx:a.eval x=.slice (some ad) m c) (hl:news.length=m*size) (hnews:∀j u,news[j]? = some u→w.cell? (ad.add j)=some u) (h1:∀u∈news,u.oneCell'=true)
  (h63:n+m≤maxLen) (hbytes:(n+m)*bytes≤140737488355328) (hbase:base≤w.heap.size)
  (h:∀v' w',w'.ownsRow base e size v' (n+m) (xs ++ news)→w.grownBy w' v.ownBlock→K (a.put o.dst v') w'):if Region.wanted o (yielded ops a.tmps)=true then Oper.wp P o a w K Q else E:=by
 have hw:Region.wanted o (yielded ops a.tmps)=true:=by simp[Region.wanted,hgd]
 rw[if_pos hw];exact wp_append_own w s x t ho base e i z size bytes ht hi hz hsize hby hzs hsz v n xs hs hown ad m c news hx hl hnews h1 h63 hbytes hbase fun v' w' h2 h3 _=>h v' w' h2 h3
theorem fa{a:Addr}(h:w.cell? a=some v)(hB:Below w.heap.size w w'):w'.cell? a=some v:=(hB.cell (World.block_lt_of_cell? w a h)).trans h
theorem cq{a:Addr}{row:Option Nat}(h:w.cell? a=some v)(hg:w.grownBy w' row)(hne:some a.block≠row):w'.cell? a=some v:=(World.cell?_of_block (hg.block a.block (World.block_lt_of_cell? w a h) hne)).trans h
theorem qP:(Tryz.prog.info? 238).map (fun i=>(i.zero,i.size,i.bytes))=some (some (.agg #[J Y 0,J Y 0,J Y 0,J Y 0,J Y 0,J Y 0,J Y 0]),7,56):=by kernel_rfl
def dp(S:List Sg):List Value:=S.flatMap sgL
theorem qB(A B:List Sg):dp (A ++ B)=dp A ++ dp B:=by unfold dp;rw[List.flatMap_append]
theorem oY{S:List Sg}(h:v∈dp S):v.oneCell'=true:=by
 unfold dp at h;rw[List.mem_flatMap]at h;obtain⟨p,_,hp⟩:=h;simp[sgL]at hp;rcases hp with rfl | rfl | rfl | rfl | rfl | rfl | rfl<;>rfl
theorem AR:∀(S:List Sg) (k:Nat) (b:Sg),S[k]? = some b→∀j u,(sgL b)[j]? = some u→(dp S)[k*7+j]? = some u:=by
 intro S
 induction S with
 | nil=>intro k b h;simp at h
 | cons x S ih=>
  intro k b h j u hu;have e:dp (x :: S)=sgL x ++ dp S:=by unfold dp;simp
  have hj:j<7:=(List.getElem?_eq_some_iff.1 hu).1;rw[e];cases k with
  | zero=>
   simp at h;subst h;rw[List.getElem?_append_left (by show _<7;omega)];simpa using hu
  | succ k=>
   rw[List.getElem?_append_right (by show 7≤_;omega)];rw[show (k+1)*7+j-(sgL x).length=k*7+j by show _-7=_;omega];exact ih k b (by simpa using h) j u hu
theorem mC{B:Nat}{a:Option Addr}{c:Nat}{A:List Sg}(h:w.ownsRow B 238 7 (.slice a A.length c) A.length (dp A)):fD w a A A.length:=by
 rcases h.2 with ⟨h1,h0⟩ | ⟨g,cap,cur,hv,hb,hg,hnc,hcm,hcs,htake⟩
 ·exact .inl h0
 ·injection hv with e1 e2 e3;refine .inr ⟨g,0,e1,(Array.getElem?_eq_some_iff.1 hg).1,fun k hk=>?_⟩;have hk':A[k]? = some (sgA A k):=by unfold sgA;rw[List.getD_eq_getElem?_getD,List.getElem?_eq_getElem hk];rfl
  have cl:∀j u,(sgL (sgA A k))[j]? = some u→w.cell? ⟨g,0+k*7+j,none⟩=some u:=by
   intro j u hu;have hj:j<7:=(List.getElem?_eq_some_iff.1 hu).1;have e:=AR A k _ hk' j u hu;rw[cell_of_row w g _ cur _ _ hg];rw[←htake,List.getElem?_take,if_pos (by omega)]at e;rw[Nat.zero_add];simpa using e
  exact⟨cl 0 _ rfl,cl 1 _ rfl,cl 2 _ rfl,cl 3 _ rfl,cl 4 _ rfl,cl 5 _ rfl,cl 6 _ rfl⟩
theorem Al{B:Nat}{a:Option Addr}{c n m:Nat}{t:TypeId}{xs:List Value}(h:w.ownsRow B t m (.slice a n c) n xs)(hm:0<m):n≤c:=by
 rcases h.2 with ⟨h1,h0⟩ | ⟨g,cap,cur,hv,hb,hg,hnc,hcm,hcs,htake⟩
 ·injection h1 with _ e2 e3;omega
 ·injection hv with e1 e2 e3;omega
theorem nM(L:List St)(S:List D3)(ids:List Int)(n:Nat)(ar br ir:Option Addr)(cr dr er:Nat)(p:Addr)(w:World)(hk:bc L=true)(hn:L.length≤1048576)(hcap:L.length≤cr)(hc9:cr≤9223372036854775807)(hm:S.length≤6)(hl:n=S.length)(hS:aZ w ar L L.length)(hD:dh w br S S.length)(hI:hU w ir ids n)(hE:bE p w):
  Calls Tryz.prog 203 #[.slice ar L.length cr,.slice br S.length dr,.slice ir n er] w fun e w'=>(∃v,e=.returned v∧w'.ownsRow w.heap.size 238 7 v (az L S ids n).length (dp (az L S ids n)))∧Below w.heap.size w w':=by
 obtain⟨i0,hinf,hz0,hz1,hz2⟩:=info_parts qP;have hm8:1000≤maxLen:=by decide +kernel
 have cA:=yz (fun (W:World) (id:Int) hW hE=>rN L id ar cr p W hn hcap hc9 hW hE);have HAT:Hid (∀id,rO L id=atV L L.length id):=yz (fun id=>by unfold rO;rw[if_pos hk]);have HS:=yz hS;have HD:=yz hD;have HE:=yz hE;have HN:=yz (gh L S ids);have HLE:=yz (iG L S ids);have HSO:Hid (∀i,bW L S ids i=(vA S i,(ids.getD i 0,atV L L.length (ids.getD i 0)))):=yz (fun i=>rfl);clear hS hD hE hk hcap hc9;generalize hme:S.length=m at *;subst hl;generalize L.length=ln at *;rcases hI with rfl | ⟨ib,io,rfl,hib,hic⟩
 ·go_enter Tryz.func203,Tryz.ntmps203;go_wp2_with fail;refine wp_loop_rounds 1 ?_;rw[rounds_succ];go_wp2_with fail;go_ret;exact⟨⟨_,rfl,World.ownsRow_nil _ _ _ _⟩,Below.refl _ _⟩
 have HIC:=yz hic;clear hic;go_enter Tryz.func203,Tryz.ntmps203;go_wp2_with fail;go_loopw [7,13] (fun v kk wr=>∃i:Nat,i≤n∧kk=J Y i∧Hid (wr.ownsRow w.heap.size 238 7 v (az L S ids i).length (dp (az L S ids i)))∧Hid (Below w.heap.size w wr)) (fun _ kk _=>n-(intOf kk).toNat)
 case atStart=>exact⟨0,by omega,rfl,yz (World.ownsRow_nil _ _ _ _),yz (Below.refl _ _)⟩
 case round=>
  obtain⟨i,hi,rfl,HO,HB⟩:=hrel;by_cases hin:i<n
  ·have hin2:(i:Int)<(n:Int):=by omega
   have ci:wr.cell? ⟨ib,io+i,none⟩=some (J Y (ids.getD i 0)):=by rw[(yy HB).cell (p:=⟨ib,io+i,none⟩) hib];exact yy HIC i hin
   have HSN:=yz (yy HN i);have HSI:=yz (yy HSO i);have hle:=yy HLE i;generalize ids.getD i 0=id at *;by_cases hid:id=0
   ·subst hid;rw[if_neg (by simp),List.append_nil]at HSN;have HO3:Hid (wr.ownsRow w.heap.size 238 7 u7 (az L S ids (i+1)).length (dp (az L S ids (i+1)))):=yz (by rw[yy HSN];exact yy HO);go_wp2_with fail;go_roundw
    case rel=>exact⟨i+1,by omega,by go_num,HO3,HB⟩
    case measure=>simp[intOf]<;>omega
   ·have hid':(id==0)=false:=by simp[hid]
    rw[if_pos hid]at HSN;rw[yy HSI]at HSN;clear HSI;have cA':=yz (fun (W:World) hW hE=>yy cA W id hW hE);rw[yy HAT id]at cA';generalize atV L ln id=q at *;obtain⟨q1,q2,q3⟩:=q;go_wp2_with fail;refine(yy cA' _ ((yy HS).kept (yy HB)) ((yy HE).kept (yy HB))).mono ?_;rintro e W1 ⟨rfl,hx⟩;unfold vQ;simp only;have HO1:=je (yy HO) hx;have HB1:=ak (yy HB) hx;clear hx HO HB cA';have HU:Hid (∀z,u7.ownBlock=some z→w.heap.size≤z∧z<W1.heap.size):=yz (fun z e=>HO1.lt z e);have Z:=an W1 (.cells #[J Y id,J Y q1,J Y q2,J Y q3] 74);have HO2:=yz (je HO1 Z);have HB2:=yz (ak HB1 Z);have N2:=yz (fW W1 (id,q1,q2,q3) 74);clear Z HO1 HB1 ci;go_wp2_with fail;generalize W1.alloc (.cells #[J Y id,J Y q1,J Y q2,J Y q3] 74)=W2 at HO2 HB2 N2 ⊢;generalize W1.heap.size=tb at *;rcases yy HD with h | ⟨bb,bo,rfl,hbb,hbc⟩
    ·omega
    have hst:=(hbc i hin).kept hbb (yy HB2);clear hbc;generalize vA S i=sv at *;obtain⟨v1,v2,v3⟩:=sv;obtain⟨c0,c1,c2⟩:=hst;obtain⟨d0,d1,d2,d3⟩:=yy N2;simp only[Nat.zero_add]at d0 d1 d2 d3;simp only at c0 c1 c2;refine wp_region_held_drew (S:=(fun w'=>(w'.cell? ⟨bb,bo+i*3,none⟩=some (J Y v1)∧w'.cell? ⟨bb,bo+i*3+1,none⟩=some (J Y v2)∧w'.cell? ⟨bb,bo+i*3+2,none⟩=some (J Y v3))∧w'.cell? ⟨tb,0,none⟩=some (J Y id)∧w'.cell? ⟨tb,1,none⟩=some (J Y q1)∧w'.cell? ⟨tb,2,none⟩=some (J Y q2)∧w'.cell? ⟨tb,3,none⟩=some (J Y q3))) (by kernel_rfl) ?_ (fun hHeld=>?_)
    ·exact⟨⟨c0,c1,c2⟩,d0,d1,d2,d3⟩
    refine ac 0 rfl ?_;try simp only[Act.put,ah,ai,aj]
    refine ac 1 rfl ?_;try simp only[Act.put,ah,ai,aj]
    refine ac 2 rfl ?_;try simp only[Act.put,ah,ai,aj]
    refine ac 3 rfl ?_;try simp only[Act.put,ah,ai,aj]
    refine ac 4 rfl ?_;try simp only[Act.put,ah,ai,aj]
    refine ac 5 rfl ?_;try simp only[Act.put,ah,ai,aj]
    refine ac 6 rfl ?_;try simp only[Act.put,ah,ai,aj]
    have HOd:W2.drew.ownsRow w.heap.size 238 7 u7 (az L S ids i).length (dp (az L S ids i)):=yy HO2;have HBd:=(yy HB2).drew;have hbs:w.heap.size≤W2.drew.heap.size:=HBd.size;have hbs2:w.heap.size≤W2.heap.size:=hbs;have c0d:W2.drew.cell? ⟨bb,bo+i*3,none⟩=some (J Y v1):=c0;have c1d:W2.drew.cell? ⟨bb,bo+i*3+1,none⟩=some (J Y v2):=c1;have c2d:W2.drew.cell? ⟨bb,bo+i*3+2,none⟩=some (J Y v3):=c2;have d0d:W2.drew.cell? ⟨tb,0,none⟩=some (J Y id):=d0;have d1d:W2.drew.cell? ⟨tb,1,none⟩=some (J Y q1):=d1;have d2d:W2.drew.cell? ⟨tb,2,none⟩=some (J Y q2):=d2;have d3d:W2.drew.cell? ⟨tb,3,none⟩=some (J Y q3):=d3;clear c0 c1 c2 d0 d1 d2 d3;refine af 7 rfl fun K hK=>?_;go_simp;have Z5:=an W2.drew (.cells #[J Y v1,J Y v2,J Y v3,J Y id,J Y q1,J Y q2,J Y q3] 238);have hown:=je HOd Z5;have B5:=ak HBd Z5;have c0:=fa c0d Z5;have c1:=fa c1d Z5;have c2:=fa c2d Z5;have d0:=fa d0d Z5;have d1:=fa d1d Z5;have d2:=fa d2d Z5;have d3:=fa d3d Z5;clear Z5 c0d c1d c2d d0d d1d d2d d3d HOd HBd;refine hK.out _ _ ?_ (fun hHeld3=>?_)
    ·exact⟨⟨c0,c1,c2⟩,d0,d1,d2,d3⟩
    clear hK K hHeld;refine af 8 rfl fun K hK=>?_;refine nS rfl _ _ 235 rfl w.heap.size 238 i0 (.agg #[J Y 0,J Y 0,J Y 0,J Y 0,J Y 0,J Y 0,J Y 0]) 7 56 Tryz.underlying235 hinf hz0 hz1 hz2 rfl (by decide) _ _ _ rfl hown ⟨W2.drew.heap.size,0,none⟩ 1 1 (dp [((v1,v2,v3),(id,q1,q2,q3))]) rfl rfl ?d2 (fun u hu=>oY hu) ?d3 ?d4 ?d5 ?_
    case d2=>first | exact fun j u h=>h | exact jz _ _ _
    case d3=>omega
    case d4=>omega
    case d5=>first | omega | (simp;omega)
    intro v7 V7 hown7 hgrow7;have neb:∀z,z<w.heap.size∨tb≤z→some z≠u7.ownBlock:=fun z hz e=>by have:=yy HU z e.symm;omega
    have HB8:Hid (Below w.heap.size w V7):=yz (B5.trans ⟨hgrow7.os,hgrow7.tape,hgrow7.output,hgrow7.size,fun z hz=>hgrow7.block z (by simp;omega) (neb z (.inl hz))⟩);have c0':=cq c0 hgrow7 (neb _ (.inl hbb));have c1':=cq c1 hgrow7 (neb _ (.inl hbb));have c2':=cq c2 hgrow7 (neb _ (.inl hbb));have d0':=cq d0 hgrow7 (neb _ (.inr (Nat.le_refl _)));have d1':=cq d1 hgrow7 (neb _ (.inr (Nat.le_refl _)));have d2':=cq d2 hgrow7 (neb _ (.inr (Nat.le_refl _)));have d3':=cq d3 hgrow7 (neb _ (.inr (Nat.le_refl _)));have HO8:Hid (V7.ownsRow w.heap.size 238 7 v7 (az L S ids (i+1)).length (dp (az L S ids (i+1)))):=yz (by rw[yy HSN,qB,List.length_append];exact hown7);clear hown7 hgrow7 hown B5 c0 c1 c2 d0 d1 d2 d3 neb;refine hK.out _ _ ?_ (fun hHeld4=>?_)
    ·exact⟨⟨c0',c1',c2'⟩,d0',d1',d2',d3'⟩
    clear hK K hHeld3;refine af 9 rfl fun K hK=>?_;go_simp;refine hK.out _ _ ?_ (fun hHeld5=>?_)
    ·exact⟨⟨c0',c1',c2'⟩,d0',d1',d2',d3'⟩
    clear hK K hHeld4;refine wpAnyH_done (by kernel_rfl) ?_ _;clear c0' c1' c2' d0' d1' d2' d3' hHeld5;go_wp2_with fail;go_roundw
    case rel=>exact⟨i+1,by omega,by go_num,HO8,HB8⟩
    case measure=>simp[intOf]<;>omega
  ·have hin':i=n:=by omega
   subst hin';go_wp2_with fail;go_ret;exact⟨⟨_,rfl,yy HO⟩,yy HB⟩
end
section
open Go.RowKit Go.Deep Go.ChangeShapes
end
section
open Go.RowKit Go.Sort
def tA(L:List T4)(i:Nat):T4:=L.getD i (0,0,0,0)
theorem CM:∀(S:List T4) (k:Nat) (b:T4),S[k]? = some b→∀j u,(ud b)[j]? = some u→(ea S)[k*4+j]? = some u:=by
 intro S
 induction S with
 | nil=>intro k b h;simp at h
 | cons x S ih=>
  intro k b h j u hu;have e:ea (x :: S)=ud x ++ ea S:=by unfold ea;simp
  have hj:j<4:=(List.getElem?_eq_some_iff.1 hu).1;rw[e];cases k with
  | zero=>
   simp at h;subst h;rw[List.getElem?_append_left (by show _<4;omega)];simpa using hu
  | succ k=>
   rw[List.getElem?_append_right (by show 4≤_;omega)];rw[show (k+1)*4+j-(ud x).length=k*4+j by show _-4=_;omega];exact ih k b (by simpa using h) j u hu
def kz(w:World)(g:Nat)(L:List T4):Prop:=g<w.heap.size∧∀k,k<L.length→w.cell? ⟨g,k*4,none⟩=some (.int .i64 (tA L k).1)∧w.cell? ⟨g,k*4+1,none⟩=some (.int .i64 (tA L k).2.1)∧w.cell? ⟨g,k*4+2,none⟩=some (.int .i64 (tA L k).2.2.1)∧w.cell? ⟨g,k*4+3,none⟩=some (.int .i64 (tA L k).2.2.2)
variable {w:World}
theorem kz.kept{w':World}{g:Nat}{L:List T4}(h:kz w g L)(hB:Below w.heap.size w w'):kz w' g L:=by
 refine⟨Nat.lt_of_lt_of_le h.1 hB.size,fun k hk=>?_⟩;obtain⟨h0,h1,h2,h3⟩:=h.2 k hk;exact⟨by rw[hB.cell (p:=⟨g,k*4,none⟩) h.1];exact h0,by rw[hB.cell (p:=⟨g,k*4+1,none⟩) h.1];exact h1,by rw[hB.cell (p:=⟨g,k*4+2,none⟩) h.1];exact h2,by rw[hB.cell (p:=⟨g,k*4+3,none⟩) h.1];exact h3⟩
theorem ue{B:Nat}{v:Value}{L:List T4}(h:w.ownsRow B 43 4 v L.length (ea L))(h0:0<L.length):∃g c,v=.slice (some ⟨g,0,none⟩) L.length c∧B≤g∧kz w g L:=by
 rcases h.2 with ⟨h1,h0'⟩ | ⟨g,cap,cur,hv,hb,hg,hnc,hcm,hcs,htake⟩
 ·omega
 ·refine⟨g,cap,hv,hb,(Array.getElem?_eq_some_iff.1 hg).1,fun k hk=>?_⟩;have hk':L[k]? = some (tA L k):=by unfold tA;rw[List.getD,List.getElem?_eq_getElem hk];rfl
  have cl:∀j u,(ud (tA L k))[j]? = some u→w.cell? ⟨g,k*4+j,none⟩=some u:=by
   intro j u hu;have hj:j<4:=(List.getElem?_eq_some_iff.1 hu).1;have e:=CM L k _ hk' j u hu;rw[cell_of_row w g _ cur _ _ hg];rw[←htake,List.getElem?_take,if_pos (by omega)]at e;simpa using e
  exact⟨cl 0 _ rfl,cl 1 _ rfl,cl 2 _ rfl,cl 3 _ rfl⟩
end
end Go.Proofs.YtdchjcadhlkpfaaGreatDoor
