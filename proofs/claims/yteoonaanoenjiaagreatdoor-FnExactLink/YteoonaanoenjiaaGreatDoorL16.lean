/- Several texts in one: MaM, TsB, SkyW, ModW. -/
import Derived.Deep.Slices
import Derived.Deep.Strs
import Derived.Stop.LaidErr
import Derived.LaidHandle
import Derived.LaidMore
import Derived.ProofKit
import Derived.Lib.SmallJoins
import Derived.Test.YteoonaanoenjiaaGreatDoorL9
namespace Go.Proofs.YteoonaanoenjiaaGreatDoor
set_option linter.unusedVariables false
set_option linter.unusedSimpArgs false
set_option maxRecDepth 100000
set_option maxHeartbeats 8000000
section
open Go.RowKit
theorem AD(p q:D3):bS p q=bS q p:=by
 unfold bS;by_cases hp:ax p.1 p.2.1 p.2.2=true
 ·by_cases hq:ax q.1 q.2.1 q.2.2=true
  ·exact pS hp hq
  ·rw[Bool.not_eq_true]at hq;unfold ez;rw[hq];simp
 ·rw[Bool.not_eq_true]at hp;unfold ez;rw[hp];simp
theorem yR{a1 a2 a3 b1 b2 b3:Int}(ha:aM 1000000 a1 a2 a3=true)(hb:aM 1000000 b1 b2 b3=true):
  (decide (crW a2 a3 b2 b3=0∧crW a3 a1 b3 b1=0∧crW a1 a2 b1 b2=0)&&decide (0<bX a1 a2 a3 b1 b2 b3))=ez a1 a2 a3 b1 b2 b3:=by
 unfold ez ax;rw[ha,hb];by_cases za:a1=0∧a2=0∧a3=0
 ·obtain⟨rfl,rfl,rfl⟩:=za;have:bX 0 0 0 b1 b2 b3=0:=by have z:wrap64 0=0:=aq (by omega) (by omega);unfold bX;simp[z]
  rw[this];simp[iw]
 ·by_cases zb:b1=0∧b2=0∧b3=0
  ·obtain⟨rfl,rfl,rfl⟩:=zb;have:bX a1 a2 a3 0 0 0=0:=by have z:wrap64 0=0:=aq (by omega) (by omega);unfold bX;simp[z]
   rw[this];simp[iw]
  ·have h1:iw a1 a2 a3=false:=by unfold iw;simp only[decide_eq_false_iff_not];exact za
   have h2:iw b1 b2 b3=false:=by unfold iw;simp only[decide_eq_false_iff_not];exact zb
   rw[h1,h2];rfl
theorem pT{x y z:Int}(h:aN x y z=true):cy x y z=true:=by
 obtain⟨h1,h2⟩:=dD h;unfold cy;rw[h1,Bool.true_and,bj];rw[bj]at h2;omega
def apD(a b c d:Int)(v:D3):D3:=(apX a b c d v.1 v.2.1 v.2.2,apY a b c d v.1 v.2.1 v.2.2,apZ a b c d v.1 v.2.1 v.2.2)
variable {a b c d:Int}
theorem qX{v:D3}(ht:aE a b c d=true)(hv:aN v.1 v.2.1 v.2.2=true):aM 1000000 (apD a b c d v).1 (apD a b c d v).2.1 (apD a b c d v).2.2=true:=by
 refine EA (D:=300) ht ?_ (by omega) (by omega);have h:=dA (dD hv).2 (dD hv).2;omega
def fj(L:List St)(a b c d:Int)(v:D3):Nat→Int
 | 0=>0
 | k+1=>if bS v (apD a b c d (stA L k).2)=true then (stA L k).1 else fj L a b c d v k
def lT(L:List St)(a b c d:Int)(S:List D3):Bool:=bk L&&aE a b c d&&aL S
def bV(L:List St)(a b c d:Int)(S:List D3):List Int:=if lT L a b c d S=true then S.map (fun v=>fj L a b c d v L.length) else []
theorem Dw{L:List St}{S:List D3}(h:bk L=false):bV L a b c d S=[]:=by unfold bV lT;rw[h];rfl
theorem Dx{L:List St}{S:List D3}(h:aE a b c d=false):bV L a b c d S=[]:=by unfold bV lT;rw[h,Bool.and_false];rfl
theorem Dy{L:List St}{S:List D3}(h:aL S=false):bV L a b c d S=[]:=by unfold bV lT;rw[h,Bool.and_false];rfl
theorem uU{L:List St}{S:List D3}(h1:bk L=true)(h2:aE a b c d=true)(h3:aL S=true):bV L a b c d S=S.map (fun v=>fj L a b c d v L.length):=by unfold bV lT;rw[h1,h2,h3];rfl
theorem Dt(L:List St)(a b c d:Int)(S:List D3):(bV L a b c d S).length≤6:=by
 unfold bV;split
 ·rename_i h
  unfold lT at h;rw[Bool.and_eq_true]at h;rw[List.length_map];exact(bK h.2).1
 ·simp
end
section
open Go.Value renaming int → J
open Go.IntKind renaming i64 → Y
open Go.RowKit Go.Sort
theorem tY(w:World):
  Calls Tryz.prog 178 #[] w fun e w'=>(∃v,e=.returned v∧w'.ownsRow w.heap.size 35 4 v (az 625).length (ew (az 625)))∧Below w.heap.size w w':=by
 obtain⟨i0,hinf,hz0,hz1,hz2⟩:=info_parts uM;have hm8:1000≤maxLen:=by decide +kernel
 have HO0:=yz (DI w w.heap.size (Nat.le_refl _));have HB0:=yz (ak w (.cells #[] 35));go_enter Tryz.func178,Tryz.ntmps178;go_wp2_with fail;generalize w.alloc (.cells #[] 35)=W0 at HO0 HB0 ⊢;go_loopw [1,2] (fun v kk wr=>∃i:Nat,i≤5∧kk=J Y ((i:Int)-2)∧Hid (wr.ownsRow w.heap.size 35 4 v (az (i*125)).length (ew (az (i*125))))∧Hid (Below w.heap.size w wr)) (fun _ kk _=>(3-intOf kk).toNat)
 case atStart=>exact⟨0,by omega,rfl,HO0,HB0⟩
 case round=>
  clear HO0 HB0;obtain⟨i,hi,rfl,HO1,HB1⟩:=hrel;by_cases hi5:i<5
  ·have hi2:(i:Int)-2≤2:=by omega
   go_wp2_with fail;go_loopw [1,3] (fun v kk wr=>∃j:Nat,j≤5∧kk=J Y ((j:Int)-2)∧Hid (wr.ownsRow w.heap.size 35 4 v (az (i*125+j*25)).length (ew (az (i*125+j*25))))∧Hid (Below w.heap.size w wr)) (fun _ kk _=>(3-intOf kk).toNat)
   case atStart=>exact⟨0,by omega,rfl,yz (by have h:=yx HO1;simpa using h),HB1⟩
   case round=>
    clear HO1 HB1;obtain⟨j,hj,rfl,HO2,HB2⟩:=hrel;by_cases hj5:j<5
    ·have hj2:(j:Int)-2≤2:=by omega
     go_wp2_with fail;go_loopw [1,4] (fun v kk wr=>∃l:Nat,l≤5∧kk=J Y ((l:Int)-2)∧Hid (wr.ownsRow w.heap.size 35 4 v (az (i*125+j*25+l*5)).length (ew (az (i*125+j*25+l*5))))∧Hid (Below w.heap.size w wr)) (fun _ kk _=>(3-intOf kk).toNat)
     case atStart=>exact⟨0,by omega,rfl,yz (by have h:=yx HO2;simpa using h),HB2⟩
     case round=>
      clear HO2 HB2;obtain⟨l,hl,rfl,HO3,HB3⟩:=hrel;by_cases hl5:l<5
      ·have hl2:(l:Int)-2≤2:=by omega
       go_wp2_with fail;go_loopw [1,5] (fun v kk wr=>∃m:Nat,m≤5∧kk=J Y ((m:Int)-2)∧Hid (wr.ownsRow w.heap.size 35 4 v (az (i*125+j*25+l*5+m)).length (ew (az (i*125+j*25+l*5+m))))∧Hid (Below w.heap.size w wr)) (fun _ kk _=>(3-intOf kk).toNat)
       case atStart=>exact⟨0,by omega,rfl,yz (by have h:=yx HO3;simpa using h),HB3⟩
       case round=>
        clear HO3 HB3;obtain⟨m,hm,rfl,HO4,HB4⟩:=hrel;by_cases hm5:m<5
        ·have hm2:(m:Int)-2≤2:=by omega
         have hta:=JL i j l m hj5 hl5 hm5;have hpl:=mb (i*125+j*25+l*5+m);have HSN:=yz (tj (i*125+j*25+l*5+m));rw[hta]at HSN;clear hta;generalize hke:i*125+j*25+l*5+m=k at *;have hkb:k<625:=by omega
         have HKE:Hid (i*125+j*25+l*5+(m+1)=k+1):=yz (by omega);clear hke;have Z:=ak wr (.cells #[J Y ((i:Int)-2),J Y ((j:Int)-2),J Y ((l:Int)-2),J Y ((m:Int)-2)] 35);have HBa:=aA HB4 Z;have HOa:=yz (jp (yx HO4) Z);have TA1:=bh wr ((i:Int)-2) ((j:Int)-2) ((l:Int)-2) ((m:Int)-2) 35;clear Z HO4 HB4;go_wp2_with fail;obtain⟨p,hp⟩:∃p,p=(i:Int)-2:=⟨_,rfl⟩
         obtain⟨q,hq⟩:∃p,p=(j:Int)-2:=⟨_,rfl⟩
         obtain⟨r,hr⟩:∃p,p=(l:Int)-2:=⟨_,rfl⟩
         obtain⟨s,hs⟩:∃p,p=(m:Int)-2:=⟨_,rfl⟩
         generalize wr.alloc (.cells #[J Y ((i:Int)-2),J Y ((j:Int)-2),J Y ((l:Int)-2),J Y ((m:Int)-2)] 35)=W1 at HBa HOa TA1 ⊢;refine(cp _ _ _ _ _).mono ?_;rintro e W2 ⟨rfl,hx⟩;have TA2:=TA1.kept TA1.lt hx;have HBb:=aA HBa hx;have HOb:=yz (jp (yx HOa) hx);clear hx TA1 HBa HOa;rw[←hp,←hq,←hr,←hs]at HSN;rw[←hp,←hq,←hr,←hs]at TA2;have HG:Hid (pE (p,q,r,s)=aE ((i:Int)-2) ((j:Int)-2) ((l:Int)-2) ((m:Int)-2)):=yz (by rw[←hp,←hq,←hr,←hs];rfl);generalize wr.heap.size=tb at *;cases hrt:aE ((i:Int)-2) ((j:Int)-2) ((l:Int)-2) ((m:Int)-2)
         ·rw[hrt]at HG;rw[yx HG,if_neg (by simp),List.append_nil]at HSN;have HO3:Hid (W2.ownsRow w.heap.size 35 4 u1 (az (i*125+j*25+l*5+(m+1))).length (ew (az (i*125+j*25+l*5+(m+1))))):=yz (by rw[yx HKE,yx HSN];exact yx HOb);clear hp hq hr hs;go_wp2_with fail;go_roundw
          case rel=>exact⟨m+1,by omega,by go_num,HO3,HBb⟩
          case measure=>simp[intOf]<;>omega
         ·rw[hrt]at HG;rw[yx HG,if_pos rfl]at HSN;obtain⟨e0,e1,e2,e3⟩:=TA2;have Z1:=ak W2 (.cells #[J Y p,J Y q,J Y r,J Y s] 35);have hown:=jp (yx HOb) Z1;have B3:=aj (yx HBb) Z1;have hsz:=(yx HBb).size;have HP:=yz hp;have HQ:=yz hq;have HR:=yz hr;have HS:=yz hs;clear Z1 HOb HBb hp hq hr hs;generalize az k=Pk at *;go_wp2_with (at_builtin;refine wpList_append_own _ rfl _ _ 239 rfl w.heap.size 35 i0 (.agg #[J Y 0,J Y 0,J Y 0,J Y 0]) 4 32 Tryz.underlying239 hinf hz0 hz1 hz2 rfl (by decide) _ _ _ rfl hown ⟨W2.heap.size,0,none⟩ 1 1 (ew [(p,q,r,s)]) rfl rfl ?d2 (fun u hu=>ry hu) ?d3 ?d4 ?d5 ?_)
          case d2=>first | exact fun j u h=>h | exact jN _ _ _
          case d3=>omega
          case d4=>omega
          case d5=>first | omega | (simp;omega)
          intro v7 V7 hown7 hgrow7 _;have HB8:=yz (Ft B3 hown hgrow7 (by simp;omega));have HO8:Hid (V7.ownsRow w.heap.size 35 4 v7 (az (i*125+j*25+l*5+(m+1))).length (ew (az (i*125+j*25+l*5+(m+1))))):=yz (by rw[yx HKE,yx HSN,uA,List.length_append];exact hown7);clear hown7 hgrow7 hown B3 e0 e1 e2 e3;go_wp2_with fail;go_roundw
          case rel=>exact⟨m+1,by omega,by go_num,HO8,HB8⟩
          case measure=>simp[intOf]<;>omega
        ·have hm2:¬(m:Int)-2≤2:=by omega
         have hm5':m=5:=by omega
         subst hm5';have HOx:Hid (wr.ownsRow w.heap.size 35 4 u1 (az (i*125+j*25+(l+1)*5)).length (ew (az (i*125+j*25+(l+1)*5)))):=yz (by rw[show i*125+j*25+(l+1)*5=i*125+j*25+l*5+5 by omega];exact yx HO4);go_wp2_with fail;go_roundw
         case rel=>exact⟨l+1,by omega,by go_num,HOx,HB4⟩
         case measure=>simp[intOf]<;>omega
      ·have hl2:¬(l:Int)-2≤2:=by omega
       have hl5':l=5:=by omega
       subst hl5';have HOx:Hid (wr.ownsRow w.heap.size 35 4 u1 (az (i*125+(j+1)*25)).length (ew (az (i*125+(j+1)*25)))):=yz (by rw[show i*125+(j+1)*25=i*125+j*25+5*5 by omega];exact yx HO3);go_wp2_with fail;go_roundw
       case rel=>exact⟨j+1,by omega,by go_num,HOx,HB3⟩
       case measure=>simp[intOf]<;>omega
    ·have hj2:¬(j:Int)-2≤2:=by omega
     have hj5':j=5:=by omega
     subst hj5';have HOx:Hid (wr.ownsRow w.heap.size 35 4 u1 (az ((i+1)*125)).length (ew (az ((i+1)*125)))):=yz (by rw[show (i+1)*125=i*125+5*25 by omega];exact yx HO2);go_wp2_with fail;go_roundw
     case rel=>exact⟨i+1,by omega,by go_num,HOx,HB2⟩
     case measure=>simp[intOf]<;>omega
  ·have hi2:¬(i:Int)-2≤2:=by omega
   have hi5':i=5:=by omega
   subst hi5';go_wp2_with fail;go_ret;exact⟨⟨_,rfl,yx HO1⟩,yx HB1⟩
end
section
open Go.RowKit Go.Deep Go.ChangeShapes
theorem zf : "*" ++ "errors.errorString" = "*errors.errorString" := by decide
theorem rowE (u : TypeId) (h : Tryz.prog.typeName? 3 u = some "*errors.errorString") : u = 309 :=
 typeName_ptr_named (nm := "errors.errorString") (by rw [zf]; kernel_rfl) (by kernel_rfl) (by decide) u (by rw [zf]; exact h)
theorem nt : Tryz.prog.globalNamed "loop.example/g00577/impl.errNoSky" = some 1 := by kernel_rfl
theorem BH:(Tryz.prog.globals[1]?).map (·.type)=some 129:=by kernel_rfl
theorem mz {W : World} {p : Addr} (hv : W.var? Tryz.prog "loop.example/g00577/impl.errNoSky" = some #[.iface 309 (.pointer (some p))]) : bm p W := by
 unfold bm;rw[World.var?_cell nt hv 0];rfl
theorem DY(n:Nat)(f:Nat→St){i:Nat}(h:i<n):stA ((List.range n).map f) i=f i:=by
 unfold stA;rw[List.getD_eq_getElem?_getD,List.getElem?_map,List.getElem?_range h];rfl
theorem Jd:Tryz.prog.cellsOf 117=4:=by kernel_rfl
theorem Ha:Tryz.prog.cellsOf 115=3:=by kernel_rfl
theorem vM:Tryz.prog.cellsOf 2=1:=by kernel_rfl
theorem DV{w:World}{x:Addr}{v:Value}(h:w.cell? x=some v):x.spot=none:=by
 cases hs:x.spot with
 | none=>rfl
 | some k=>
  exfalso;unfold World.cell? at h;rw[hs]at h;revert h
  split<;>simp
theorem Au{H:Type}{enc:TypeId×Value→H}{w:World}{fuel:Nat}{a:Option Addr}{len cap:Nat}{x:DataW H×List MemPlace}
  (h:DataW.trod enc Tryz.prog w 0 (fun _=>true) true fuel 22 [.slice a len cap]=some x):∃L:List St,L.length=len∧aH w a L len∧len≤maxLen:=by
 rcases open_slice Tryz.underlying22 h with ⟨hcs,_⟩ | ⟨a',l,c,m,n,D,Pl,hcs,_,hl,hm,hmm,_,hel⟩
 ·simp at hcs;obtain⟨rfl,rfl,rfl⟩:=hcs;exact⟨[],rfl,.inl rfl,Nat.zero_le _⟩
 ·simp at hcs;obtain⟨rfl,rfl,rfl⟩:=hcs;have hlm:len≤m:=by rw[hmm];simp;exact hl
  have each:∀i,i<len→∃s:St,w.cell? (a'.add (i*4))=some (.int .i64 s.1)∧w.cell? (a'.add (i*4+1))=some (.int .i64 s.2.1)∧w.cell? (a'.add (i*4+2))=some (.int .i64 s.2.2.1)∧w.cell? (a'.add (i*4+3))=some (.int .i64 s.2.2.2):=by
   intro i hi;obtain⟨cs,h1,h2⟩:=hel i (by omega);rw[Jd]at h1;obtain⟨_,hlen,hcell⟩:=World.cells?_some h1;obtain⟨y0,y1,n1,_,_,g0,g1⟩:=trod_struct2 Tryz.underlying117 h2
   match cs,hlen with
   | [v0,v1,v2,v3],_=>
    have g0':DataW.trod enc Tryz.prog w 0 (fun _=>true) true n1 2 (([v0,v1,v2,v3].drop 0).take (Tryz.prog.cellsOf 2))=some y0:=g0;have g1':DataW.trod enc Tryz.prog w 0 (fun _=>true) true n1 115 (([v0,v1,v2,v3].drop 1).take (Tryz.prog.cellsOf 115))=some y1:=g1;rw[vM]at g0';rw[Ha]at g1';obtain⟨z0,z1,z2,n2,_,_,k0,k1,k2⟩:=trod_struct3 Tryz.underlying115 g1';have k0':DataW.trod enc Tryz.prog w 0 (fun _=>true) true n2 2 (([v1,v2,v3].drop 0).take (Tryz.prog.cellsOf 2))=some z0:=k0;have k1':DataW.trod enc Tryz.prog w 0 (fun _=>true) true n2 2 (([v1,v2,v3].drop 1).take (Tryz.prog.cellsOf 2))=some z1:=k1;have k2':DataW.trod enc Tryz.prog w 0 (fun _=>true) true n2 2 (([v1,v2,v3].drop 2).take (Tryz.prog.cellsOf 2))=some z2:=k2;rw[vM]at k0' k1' k2';obtain⟨i0,e0,_,_⟩:=DataW.trod_int Tryz.underlying2 g0';obtain⟨i1,e1,_,_⟩:=DataW.trod_int Tryz.underlying2 k0';obtain⟨i2,e2,_,_⟩:=DataW.trod_int Tryz.underlying2 k1';obtain⟨i3,e3,_,_⟩:=DataW.trod_int Tryz.underlying2 k2';simp at e0 e1 e2 e3;subst e0 e1 e2 e3;have c0:=hcell 0 (by omega);have c1:=hcell 1 (by omega);have c2:=hcell 2 (by omega);have c3:=hcell 3 (by omega);rw[add_add]at c0 c1 c2 c3;exact⟨(i0,i1,i2,i3),by simpa using c0,by simpa using c1,by simpa using c2,by simpa using c3⟩
  obtain⟨f,hf⟩:=choose_lt each;refine⟨(List.range len).map f,by simp,?_,by omega⟩;rcases Nat.eq_zero_or_pos len with h0 | h0
  ·exact .inl h0
  ·have hs:(a'.add (0*4)).spot=none:=DV (hf 0 h0).1;have hb:(a'.add (0*4)).block<w.heap.size:=World.block_lt_of_cell? w _ (hf 0 h0).1;obtain⟨bx,ox,sx⟩:=a';have hs':sx=none:=by simpa[Addr.add] using hs
   subst hs';have hA:∀j,(⟨bx,ox,none⟩:Addr).add j=⟨bx,ox+j,none⟩:=fun j=>by unfold Addr.add;split<;>simp_all
   refine .inr ⟨bx,ox,rfl,by simpa[Addr.add] using hb,fun i hi=>?_⟩;obtain⟨c0,c1,c2,c3⟩:=hf i hi;rw[hA]at c0 c1 c2 c3;rw[DY len f hi];exact⟨c0,by rw[Nat.add_assoc];exact c1,by rw[Nat.add_assoc];exact c2,by rw[Nat.add_assoc];exact c3⟩
end
section
open Go.ChangeShapes Go.WideShapes Go.ChangeAt Go.RowKit Go.Joins Go.Deep
theorem IZ{α:Type}{cs:Array α}(h:cs.size=9):∃c0 c1 c2 c3 c4 c5 c6 c7 c8,cs = #[c0,c1,c2,c3,c4,c5,c6,c7,c8]:=by
 obtain⟨l⟩:=cs
 match l,h with
 | [c0,c1,c2,c3,c4,c5,c6,c7,c8],_=>exact⟨c0,c1,c2,c3,c4,c5,c6,c7,c8,rfl⟩
theorem xq{H:Type}{enc:TypeId×Value→H}{P:Program}{w:World}{base:Nat}{spare:Nat→Bool}{held:Bool}{t:TypeId}{f0 f1 f2 f3 f4 f5:Field}{fuel:Nat}{cs:List Value}{x:DataW H×List MemPlace}(ht:P.underlying t=some (.struct #[f0,f1,f2,f3,f4,f5]))(h:DataW.trod enc P w base spare held fuel t cs=some x):
  ∃y0 y1 y2 y3 y4 y5 n,DataW.trod enc P w base spare held n f0.type ((cs.drop f0.offset).take (P.cellsOf f0.type))=some y0 ∧
   DataW.trod enc P w base spare held n f1.type ((cs.drop f1.offset).take (P.cellsOf f1.type))=some y1∧DataW.trod enc P w base spare held n f2.type ((cs.drop f2.offset).take (P.cellsOf f2.type))=some y2 ∧
   DataW.trod enc P w base spare held n f3.type ((cs.drop f3.offset).take (P.cellsOf f3.type))=some y3∧DataW.trod enc P w base spare held n f4.type ((cs.drop f4.offset).take (P.cellsOf f4.type))=some y4∧DataW.trod enc P w base spare held n f5.type ((cs.drop f5.offset).take (P.cellsOf f5.type))=some y5:=by
 obtain⟨xs,n,_,rfl,hl,hlen,hf⟩:=DataW.trod_struct ht h
 match xs,hlen with
 | [y0,y1,y2,y3,y4,y5],_=>exact⟨y0,y1,y2,y3,y4,y5,n,by simpa using hf 0 f0 rfl,by simpa using hf 1 f1 rfl,by simpa using hf 2 f2 rfl,by simpa using hf 3 f3 rfl,by simpa using hf 4 f4 rfl,by simpa using hf 5 f5 rfl⟩
theorem GY:Tryz.prog.cellsOf 26=9:=by kernel_rfl
theorem GZ:Tryz.prog.cellsOf 24=4:=by kernel_rfl
theorem GX:Tryz.prog.cellsOf 22=1:=by kernel_rfl
theorem wP{H:Type}{enc:TypeId×Value→H}{w:World}{r:Reach}{b0:Nat}{v:Value}{d:DataW H}{p:List MemPlace}
  (hv:Value.okWide Tryz.prog w r b0 26 v) (h:DataW.Trod enc Tryz.prog w 0 (fun _=>true) true 26 v d p) :
  ∃(L:List St) (a:Option Addr) (len cap:Nat) (lim mode A B C D coast fr:Int),v=.agg #[.slice a len cap,.int .i64 lim,.int .i64 mode,.int .i64 A,.int .i64 B,.int .i64 C,.int .i64 D,.int .i64 coast,.int .i64 fr]∧L.length=len∧aH w a L len∧len≤maxLen:=by
 obtain⟨cs,rfl,hsz⟩:=okWide_struct Tryz.underlying26 hv;obtain⟨c0,c1,c2,c3,c4,c5,c6,c7,c8,rfl⟩:=IZ (hsz.trans GY);obtain⟨fuel,hf⟩:=h;have hf':DataW.trod enc Tryz.prog w 0 (fun _=>true) true fuel 26 [c0,c1,c2,c3,c4,c5,c6,c7,c8]=some (d,p):=by simpa[Value.cells] using hf
 obtain⟨y0,y1,y2,y3,y4,y5,n,g0,g1,g2,g3,g4,g5⟩:=xq Tryz.underlying26 hf';have e0:DataW.trod enc Tryz.prog w 0 (fun _=>true) true n 22 (([c0,c1,c2,c3,c4,c5,c6,c7,c8].drop 0).take (Tryz.prog.cellsOf 22))=some y0:=g0;have e1:DataW.trod enc Tryz.prog w 0 (fun _=>true) true n 2 (([c0,c1,c2,c3,c4,c5,c6,c7,c8].drop 1).take (Tryz.prog.cellsOf 2))=some y1:=g1;have e2:DataW.trod enc Tryz.prog w 0 (fun _=>true) true n 2 (([c0,c1,c2,c3,c4,c5,c6,c7,c8].drop 2).take (Tryz.prog.cellsOf 2))=some y2:=g2;have e3:DataW.trod enc Tryz.prog w 0 (fun _=>true) true n 24 (([c0,c1,c2,c3,c4,c5,c6,c7,c8].drop 3).take (Tryz.prog.cellsOf 24))=some y3:=g3;have e4:DataW.trod enc Tryz.prog w 0 (fun _=>true) true n 2 (([c0,c1,c2,c3,c4,c5,c6,c7,c8].drop 7).take (Tryz.prog.cellsOf 2))=some y4:=g4;have e5:DataW.trod enc Tryz.prog w 0 (fun _=>true) true n 2 (([c0,c1,c2,c3,c4,c5,c6,c7,c8].drop 8).take (Tryz.prog.cellsOf 2))=some y5:=g5;rw[GX]at e0;rw[vM]at e1 e2 e4 e5;rw[GZ]at e3;clear g0 g1 g2 g3 g4 g5;have e0':DataW.trod enc Tryz.prog w 0 (fun _=>true) true n 22 [c0]=some y0:=e0;obtain⟨z0,z1,z2,z3,n2,_,_,k0,k1,k2,k3⟩:=trod_struct4 Tryz.underlying24 e3;have k0':DataW.trod enc Tryz.prog w 0 (fun _=>true) true n2 2 (([c3,c4,c5,c6].drop 0).take (Tryz.prog.cellsOf 2))=some z0:=k0;have k1':DataW.trod enc Tryz.prog w 0 (fun _=>true) true n2 2 (([c3,c4,c5,c6].drop 1).take (Tryz.prog.cellsOf 2))=some z1:=k1;have k2':DataW.trod enc Tryz.prog w 0 (fun _=>true) true n2 2 (([c3,c4,c5,c6].drop 2).take (Tryz.prog.cellsOf 2))=some z2:=k2;have k3':DataW.trod enc Tryz.prog w 0 (fun _=>true) true n2 2 (([c3,c4,c5,c6].drop 3).take (Tryz.prog.cellsOf 2))=some z3:=k3;rw[vM]at k0' k1' k2' k3';obtain⟨i1,q1,_,_⟩:=DataW.trod_int Tryz.underlying2 e1;obtain⟨i2,q2,_,_⟩:=DataW.trod_int Tryz.underlying2 e2;obtain⟨i4,q4,_,_⟩:=DataW.trod_int Tryz.underlying2 e4;obtain⟨i5,q5,_,_⟩:=DataW.trod_int Tryz.underlying2 e5;obtain⟨j0,p0,_,_⟩:=DataW.trod_int Tryz.underlying2 k0';obtain⟨j1,p1,_,_⟩:=DataW.trod_int Tryz.underlying2 k1';obtain⟨j2,p2,_,_⟩:=DataW.trod_int Tryz.underlying2 k2';obtain⟨j3,p3,_,_⟩:=DataW.trod_int Tryz.underlying2 k3';simp at q1 q2 q4 q5 p0 p1 p2 p3;subst q1 q2 q4 q5 p0 p1 p2 p3
 have hc:∃a len cap,c0=.slice a len cap:=by
  rcases open_slice Tryz.underlying22 e0' with ⟨hcs,_⟩ | ⟨a',l,c,m,nn,D,Pl,hcs,_⟩
  ·simp at hcs;exact⟨_,_,_,hcs⟩
  ·simp at hcs;exact⟨_,_,_,hcs⟩
 obtain⟨a,len,cap,rfl⟩:=hc;obtain⟨L,hl,hS,hm⟩:=Au e0';exact⟨L,a,len,cap,i1,i2,j0,j1,j2,j3,i4,i5,rfl,hl,hS,hm⟩
end
end Go.Proofs.YteoonaanoenjiaaGreatDoor
