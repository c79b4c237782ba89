/- Several texts in one: MaA. -/
import Derived.Test.YteoonaanoenjiaaGreatDoorL16
import Derived.Test.YteoonaanoenjiaaGreatDoorL8
import Derived.Test.YteoonaanoenjiaaGreatDoorL7
namespace Go.Proofs.YteoonaanoenjiaaGreatDoor
set_option linter.unusedVariables false
set_option linter.unusedSimpArgs false
set_option maxRecDepth 100000
set_option maxHeartbeats 8000000
section
open Go.Value renaming int → J
open Go.IntKind renaming i64 → Y
open Go.RowKit Go.Sort
theorem lg:(Tryz.prog.info? 2).map (fun i=>(i.zero,i.size,i.bytes))=some (some (J Y 0),1,8):=by kernel_rfl
variable {a b c d:Int} {g m:Nat} {f:Nat→Value} {w w' wr:World}
theorem bI.made{B b n:Nat}{v:Value}{t:TypeId}{c:Nat}{xs:List Value}(h:w'.ownsRow B t c (.slice (some ⟨b,0,none⟩) n n) n xs)(hf:∀j,j<n*c→xs[j]? = some (f j)):bI w' t b (n*c) f:=by
 rcases h.2 with ⟨h',_⟩ | ⟨g,cap,cur,hv,_,hg,_,_,_,htake⟩
 ·simp at h'
 ·simp only[Value.slice.injEq,Option.some.injEq,Addr.mk.injEq,and_true,true_and]at hv;obtain⟨rfl,rfl⟩:=hv;refine⟨cur,hg,fun j hj=>?_⟩;have e:=hf j hj;rw[←htake,List.getElem?_take,if_pos hj]at e;simpa using e
theorem ke(h:w.grownBy w' none):Below w.heap.size w w':=⟨h.os,h.tape,h.output,h.size,fun k hk=>h.block k hk (by simp)⟩
theorem po(a b c d:Int)(v:D3)(w:World)(ht:aE a b c d=true)(hv:aN v.1 v.2.1 v.2.2=true):
  Calls Tryz.prog 200 #[.agg #[J Y a,J Y b,J Y c,J Y d],.agg #[J Y v.1,J Y v.2.1,J Y v.2.2]] w fun e w'=>e=.returned (.agg #[J Y (apD a b c d v).1,J Y (apD a b c d v).2.1,J Y (apD a b c d v).2.2])∧Below w.heap.size w w':=by
 refine(CD a b c d v.1 v.2.1 v.2.2 w).mono fun e w' h=>?_;have hr:apR a b c d v.1 v.2.1 v.2.2=true:=by unfold apR;rw[ht,pT hv];rfl
 rw[hr]at h;exact h
theorem bd.same{b:Nat}{p q r s:Int}(h:bd w b p q r s)(e:w'.heap[b]? = w.heap[b]?):bd w' b p q r s:=by
 obtain⟨h0,h1,h2,h3⟩:=h;exact⟨(World.cell?_of_block (a:=⟨b,_,none⟩) e).trans h0,(World.cell?_of_block (a:=⟨b,_,none⟩) e).trans h1,(World.cell?_of_block (a:=⟨b,_,none⟩) e).trans h2,(World.cell?_of_block (a:=⟨b,_,none⟩) e).trans h3⟩
structure MSt (w wr:World) (g m:Nat) (a b c d:Int) (f:Nat→Value):Prop where
 row:bI wr 2 g (m*1) f
 tur:bd wr w.heap.size a b c d
 bel:Below w.heap.size w wr
 lo:w.heap.size<g
theorem MSt.kept{wy:World}(h:MSt w wr g m a b c d f)(hB:Below wr.heap.size wr wy):MSt w wy g m a b c d f:=
 ⟨h.row.kept hB,h.tur.kept h.tur.lt hB,aj h.bel hB,h.lo⟩
theorem MSt.set(h:MSt w wr g m a b c d f)(i:Nat)(v:Value):MSt w (wr.setCell ⟨g,i,none⟩ v) g m a b c d (fun j=>if j=i then v else f j):=
 ⟨h.row.set i v,h.tur.same (heap_setCell_other wr ⟨g,i,none⟩ w.heap.size v (by have:=h.lo;show w.heap.size≠g;omega)),h.bel.setCell (by have:=h.lo;show w.heap.size≤g;omega) _,h.lo⟩
theorem MSt.congr{f':Nat→Value}(h:MSt w wr g m a b c d f)(e:∀j,j<m→f j=f' j):MSt w wr g m a b c d f':=⟨h.row.congr (fun j hj=>e j (by omega)),h.tur,h.bel,h.lo⟩
def nU(S:List D3)(fin:D3→Int)(i:Nat)(x:Int)(j:Nat):Value:=J Y (if j<i then fin (vA S j) else if j=i then x else 0)
theorem qj(L:List St)(S:List D3)(ar br:Option Addr)(cr dr:Nat)(a b c d:Int)(p:Addr)(w:World)(hn:L.length≤1048576)(hcap:L.length≤cr)(hc9:cr≤9223372036854775807)(hn2:S.length≤1048576)(hcap2:S.length≤dr)(hd9:dr≤9223372036854775807)(hS:aH w ar L L.length)(hD:bi w br S S.length)(hE:bm p w):
  Calls Tryz.prog 183 #[.slice ar L.length cr,.agg #[J Y a,J Y b,J Y c,J Y d],.slice br S.length dr] w fun e w'=>(∃v,e=.returned v∧eJ w' 2 1 w.heap.size w'.heap.size (bV L a b c d S).length v (fun j=>J Y ((bV L a b c d S).getD j 0)))∧Below w.heap.size w w':=by
 obtain⟨i0,hinf,hz0,hz1,hz2⟩:=info_parts lg;have cK:=yz (fun (W:World) hW hE=>gE L ar cr p W hn hcap hc9 hW hE);have cP:=yz (fun (W:World) hW=>ft S br dr W hn2 hcap2 hd9 hW);have H1:Hid (bk L=false→bV L a b c d S=[]):=yz Dw;have H2:Hid (aE a b c d=false→bV L a b c d S=[]):=yz Dx;have H3:Hid (aL S=false→bV L a b c d S=[]):=yz Dy;have H4:Hid (bk L=true→aE a b c d=true→aL S=true→bV L a b c d S=S.map (fun v=>fj L a b c d v L.length)):=yz uU;have H5:Hid (bk L=true→L.length≤12∧∀j,j<L.length→aN (stA L j).2.1 (stA L j).2.2.1 (stA L j).2.2.2=true):=yz (fun h=>⟨(eu h).1,fun j hj=>iU ((eu h).2 j hj)⟩);have H6:Hid (aL S=true→S.length≤6):=yz (fun h=>(bK h).1);have HS:=yz hS;have HD:=yz hD;have HE:=yz hE;clear hS hD hE;generalize bV L a b c d S=R at *;generalize hml:S.length=m at *;have HML:=yz hml;clear hml;generalize L.length=n at *;clear hcap hcap2 hc9 hd9;have T0:=bh w a b c d 35;have B0:=ak w (.cells #[J Y a,J Y b,J Y c,J Y d] 35);go_enter Tryz.func183,Tryz.ntmps183;go_wp2_with fail;generalize w.alloc (.cells #[J Y a,J Y b,J Y c,J Y d] 35)=W0 at T0 B0 ⊢;refine(yx cK _ ((yx HS).kept B0) ((yx HE).kept B0)).mono ?_;rintro e W1 ⟨rfl,hx⟩;have T1:=T0.kept T0.lt hx;have B1:=aj B0 hx;clear hx T0 B0;cases hk:bk L
 ·obtain rfl:=yx H1 hk;go_wp2_with fail;go_ret;exact⟨⟨_,rfl,.inl ⟨rfl,_,_,rfl⟩⟩,B1⟩
 have wT:=T1;obtain⟨t0,t1,t2,t3⟩:=wT;go_wp2_with fail;clear t0 t1 t2 t3;refine(bO a b c d _).mono ?_;rintro e W2 ⟨rfl,hx⟩;have T2:=T1.kept T1.lt hx;have B2:=aj B1 hx;clear hx T1 B1;cases hr:aE a b c d
 ·obtain rfl:=yx H2 hr;go_wp2_with fail;go_ret;exact⟨⟨_,rfl,.inl ⟨rfl,_,_,rfl⟩⟩,B2⟩
 go_wp2_with fail;refine(yx cP _ ((yx HD).kept B2)).mono ?_;rintro e W3 ⟨rfl,hx⟩;have T3:=T2.kept T2.lt hx;have B3:=aj B2 hx;clear hx T2 B2;cases hp:aL S
 ·obtain rfl:=yx H3 hp;go_wp2_with fail;go_ret;exact⟨⟨_,rfl,.inl ⟨rfl,_,_,rfl⟩⟩,B3⟩
 have HR:=yz (yx H4 hk hr hp);obtain⟨hn12,hsm⟩:=yx H5 hk;have hm6:=yx H6 hp;have HSM:=yz hsm;have HRT:=yz hr;clear hsm hk hr hp H1 H2 H3 H4 H5 H6 cK cP;go_wp2_with (at_make;refine wpList_make_full _ rfl _ _ 188 rfl W3.heap.size 2 i0 (J Y 0) 1 Tryz.underlying188 hinf hz0 hz1 .i64 .i64 _ _ m rfl rfl rfl rfl (by rw[hz2];omega) (by unfold maxLen;omega) (Nat.le_refl _) ?_;intro w0 hown0 hgrow0);have hg3:w.heap.size<W3.heap.size:=T3.lt
 have hzero:∀j,j<m*1→(madeCells (Value.int .i64 0).cells (m*1)).toList[j]? = some (nU S (fun v=>fj L a b c d v n) 0 0 j):=by
  intro j hj;have e:(Value.int .i64 0).cells = #[J Y 0]:=rfl;rw[e,toList_madeCells_one];have:nU S (fun v=>fj L a b c d v n) 0 0 j=J Y 0:=by unfold nU;rw[if_neg (by omega)];split<;>rfl
  rw[this];simp at hj;simp[hj]
 have HM:Hid (MSt w w0 W3.heap.size m a b c d (nU S (fun v=>fj L a b c d v n) 0 0)):=yz ⟨bI.made (v:=.nilIface) hown0 hzero,T3.kept T3.lt (ke hgrow0),aj B3 (ke hgrow0),hg3⟩;clear hzero hown0 hgrow0 T3 B3 hg3;generalize W3.heap.size=g at *;clear W3;go_loopw [30] (fun kk wr=>∃i:Nat,i≤m∧kk=J Y i∧Hid (MSt w wr g m a b c d (nU S (fun v=>fj L a b c d v n) i 0))) (fun kk _=>m-(intOf kk).toNat)
 case atStart=>exact⟨0,by omega,rfl,HM⟩
 case round=>
  clear HM;obtain⟨i,hi,rfl,HM⟩:=hrel;by_cases him:i<m
  ·have him2:(i:Int)<(m:Int):=by omega
   rcases yx HD with h | ⟨bb,bo,rfl,hbb,hbc⟩
   ·omega
   have hst:=(hbc i him).kept hbb (yx HM).bel;clear hbc;obtain⟨⟨v1,v2,v3⟩,hv⟩:∃v,vA S i=v:=⟨_,rfl⟩
   rw[hv]at hst;obtain⟨c0,c1,c2⟩:=hst;have HV:=yz hv;clear hv;have Z:=ak wr (.cells #[J Y v1,J Y v2,J Y v3] 111);have HM1:=an HM Z;have HV1:=yz (aG wr v1 v2 v3 111);have hvg:g<wr.heap.size:=(yx HM).row.lt;clear Z HM;go_wp2_with fail;clear c0 c1 c2;generalize wr.alloc (.cells #[J Y v1,J Y v2,J Y v3] 111)=W1 at HM1 HV1 ⊢;generalize wr.heap.size=vb at *;rcases yx HS with h0 | ⟨sb,so,rfl,hsb,hsc⟩
   ·subst h0;refine wp_loop_rounds 1 ?_;rw[rounds_succ]
    have HM2:Hid (MSt w W1 g m a b c d (nU S (fun v=>fj L a b c d v 0) (i+1) 0)):=yz ((yx HM1).congr (fun j hj=>by
     unfold nU;by_cases h:j<i
     ·rw[if_pos h,if_pos (by omega)]
     ·rw[if_neg h];by_cases h2:j=i
      ·rw[if_pos h2,if_pos (by omega)];rfl
      ·rw[if_neg h2,if_neg (by omega)]
       split<;>rfl))
    go_wp2_with fail;go_roundw
    case rel=>exact⟨i+1,by omega,by go_num,HM2⟩
    case measure=>simp[intOf];omega
   have HSC:=yz hsc;clear hsc;go_loopw [37] (fun kk wr=>∃k:Nat,k≤n∧kk=J Y k∧Hid (MSt w wr g m a b c d (nU S (fun v=>fj L a b c d v n) i (fj L a b c d (v1,v2,v3) k)))∧Hid (aD wr vb v1 v2 v3)) (fun kk _=>n-(intOf kk).toNat)
   case atStart=>exact⟨0,by omega,rfl,HM1,HV1⟩
   case round=>
    clear HM1 HV1;obtain⟨k,hk,rfl,HM,HV1⟩:=hrel;by_cases hkn:k<n
    ·have hkn2:(k:Int)<(n:Int):=by omega
     have hst:=(yx HSC k hkn).kept hsb (yx HM).bel;have hsm:=yx HSM k hkn;have HID:Hid (fj L a b c d (v1,v2,v3) (k+1)=if bS (v1,v2,v3) (apD a b c d (stA L k).2)=true then (stA L k).1 else fj L a b c d (v1,v2,v3) k):=yz rfl;obtain⟨⟨s1,s2,s3,s4⟩,hs⟩:∃s,stA L k=s:=⟨_,rfl⟩
     rw[hs]at hst hsm HID;clear hs;obtain⟨c0,c1,c2,c3⟩:=hst;have cA:=yz (fun W=>po a b c d (s2,s3,s4) W (yx HRT) hsm);have HID':Hid (fj L a b c d (v1,v2,v3) (k+1)=if bS (v1,v2,v3) (apD a b c d (s2,s3,s4))=true then s1 else fj L a b c d (v1,v2,v3) k):=HID;clear HID hsm;generalize apD a b c d (s2,s3,s4)=q at *;obtain⟨q1,q2,q3⟩:=q;have cS:Hid (∀W:World,Calls Tryz.prog 156 #[.agg #[J Y v1,J Y v2,J Y v3],.agg #[J Y q1,J Y q2,J Y q3]] W fun e w'=>e=.returned (.bool (bS (v1,v2,v3) (q1,q2,q3)))∧Below W.heap.size W w'):=yz (fun W=>jt v1 v2 v3 q1 q2 q3 W);generalize bS (v1,v2,v3) (q1,q2,q3)=sm at *;simp only at cA;have Z:=ak wr (.cells #[J Y s1,J Y s2,J Y s3,J Y s4] 113);have HM2:=an HM Z;have HV2:=yz ((yx HV1).kept (oj (yx HV1)) Z);have N2:=fu wr (s1,s2,s3,s4) 113;clear Z HM HV1;go_wp2_with fail;clear c0 c1 c2 c3;generalize wr.alloc (.cells #[J Y s1,J Y s2,J Y s3,J Y s4] 113)=W2 at HM2 HV2 N2 ⊢;have HN2:=yz N2;obtain⟨c0,c1,c2,c3⟩:=N2;simp only[Nat.zero_add]at c0 c1 c2 c3;obtain⟨d0,d1,d2⟩:=yx HV2;obtain⟨e0,e1,e2,e3⟩:=(yx HM2).tur;have r0:=cell_regrown c0;have r1:=cell_regrown c1;have r2:=cell_regrown c2;have r3:=cell_regrown c3;have x0:=cell_regrown d0;have x1:=cell_regrown d1;have x2:=cell_regrown d2;have y0:=cell_regrown e0;have y1:=cell_regrown e1;have y2:=cell_regrown e2;have y3:=cell_regrown e3;have hsl:=World.block_lt_of_cell? _ _ c0;clear c0 c1 c2 c3 d0 d1 d2 e0 e1 e2 e3;generalize wr.heap.size=sb2 at *;refine bQ ?_;repeat (go_big_quiet_step (with_reducible first | exact aC cA | exact aC cS))
     refine bW fun dq osq=>?_;have hx:=below_regrown W2 dq osq;have HM3:=an HM2 hx;have HV3:=yz ((yx HV2).kept (oj (yx HV2)) hx);have N3:=(yx HN2).kept hsl hx;generalize grow (redrawn W2 dq) osq=W3 at hx HM3 HV3 N3 ⊢;clear hx cA cS r0 r1 r2 r3 x0 x1 x2 y0 y1 y2 y3 HM2 HV2 HN2;cases sm
     ·rw[if_neg (by simp)]at HID';have HM4:Hid (MSt w W3 g m a b c d (nU S (fun v=>fj L a b c d v n) i (fj L a b c d (v1,v2,v3) (k+1)))):=yz (by rw[yx HID'];exact yx HM3);go_wp2_with fail;go_roundw
      case rel=>exact⟨k+1,by omega,by go_num,HM4,HV3⟩
      case measure=>simp[intOf];omega
     ·rw[if_pos rfl]at HID';obtain⟨c0,c1,c2,c3⟩:=N3;simp only[Nat.zero_add]at c0 c1 c2 c3;have f0:=(yx HM3).row.cell (j:=i) (by omega);have f1:=(yx HM3).row.free i
      have HM4:Hid (MSt w (W3.setCell ⟨g,i,none⟩ (J Y s1)) g m a b c d (nU S (fun v=>fj L a b c d v n) i (fj L a b c d (v1,v2,v3) (k+1)))):=yz (((yx HM3).set i (J Y s1)).congr (fun j hj=>by
       rw[yx HID'];unfold nU;by_cases h:j=i
       ·rw[if_pos h,if_neg (by omega),if_pos h]
       ·rw[if_neg h,if_neg h,if_neg h]))
      have HV4:Hid (aD (W3.setCell ⟨g,i,none⟩ (J Y s1)) vb v1 v2 v3):=yz (by
       have e:=heap_setCell_other W3 ⟨g,i,none⟩ vb (J Y s1) (by show vb≠g;omega);obtain⟨h0,h1,h2⟩:=yx HV3
       exact⟨(World.cell?_of_block (a:=⟨vb,_,none⟩) e).trans h0,(World.cell?_of_block (a:=⟨vb,_,none⟩) e).trans h1,(World.cell?_of_block (a:=⟨vb,_,none⟩) e).trans h2⟩)
      clear HM3 HV3;go_wp2_with fail;go_roundw
      case rel=>exact⟨k+1,by omega,by go_num,HM4,HV4⟩
      case measure=>simp[intOf];omega
    ·have hkn':k=n:=by omega
     have HM2:Hid (MSt w wr g m a b c d (nU S (fun v=>fj L a b c d v n) (i+1) 0)):=yz ((yx HM).congr (fun j hj=>by
      unfold nU;by_cases h:j<i
      ·rw[if_pos h,if_pos (by omega)]
      ·rw[if_neg h];by_cases h2:j=i
       ·rw[if_pos h2,if_pos (by omega),h2,yx HV,hkn']
       ·rw[if_neg h2,if_neg (by omega)]
        split<;>rfl))
     clear HM;go_wp2_with fail;go_roundw
     case rel=>exact⟨i+1,by omega,by go_num,HM2⟩
     case measure=>simp[intOf];omega
  ·have him':i=m:=by omega
   subst him'
   have HP:Hid (eJ wr 2 1 w.heap.size wr.heap.size R.length (.slice (some ⟨g,0,none⟩) i i) (fun j=>J Y (R.getD j 0))):=yz (by
    have hl:R.length=i:=by rw[yx HR,List.length_map];exact yx HML
    rw[hl];refine .inr ⟨g,i,rfl,Nat.le_of_lt (yx HM).lo,(yx HM).row.lt,(yx HM).row.congr (fun j hj=>?_)⟩;have hj':j<S.length:=by rw[yx HML];omega
    unfold nU;rw[if_pos (by omega),yx HR,List.getD_eq_getElem?_getD,List.getElem?_map,List.getElem?_eq_getElem hj'];unfold vA;rw[List.getD_eq_getElem?_getD,List.getElem?_eq_getElem hj']
    rfl)
   go_wp2_with fail;go_ret;exact⟨⟨_,rfl,yx HP⟩,(yx HM).bel⟩
end
end Go.Proofs.YteoonaanoenjiaaGreatDoor
