/- Several texts in one: TsB, DrW. -/
import Derived.Lay
import Derived.Test.YtdchjcadhlkpfaaGreatDoorD24
namespace Go.Proofs.YtdchjcadhlkpfaaGreatDoor
set_option linter.unusedVariables false
set_option linter.unusedSimpArgs false
set_option maxRecDepth 100000
set_option maxHeartbeats 8000000
section
open Go.Value renaming int → J
open Go.IntKind renaming i64 → Y
open Go.RowKit Go.Sort
theorem sH(w:World):
  Calls Tryz.prog 127 #[] w fun e w'=>(∃v,e=.returned v∧w'.ownsRow w.heap.size 43 4 v (aB 625).length (ea (aB 625)))∧Below w.heap.size w w':=by
 obtain⟨i0,hinf,hz0,hz1,hz2⟩:=info_parts tz;have hm8:1000≤maxLen:=by decide +kernel
 have HO0:=yz (BB w w.heap.size (Nat.le_refl _));have HB0:=yz (an w (.cells #[] 43));go_enter Tryz.func127,Tryz.ntmps127;go_wp2_with fail;generalize w.alloc (.cells #[] 43)=W0 at HO0 HB0 ⊢;go_loopw [1,2] (fun v kk wr=>∃i:Nat,i≤5∧kk=J Y ((i:Int)-2)∧Hid (wr.ownsRow w.heap.size 43 4 v (aB (i*125)).length (ea (aB (i*125))))∧Hid (Below w.heap.size w wr)) (fun _ kk _=>(3-intOf kk).toNat)
 case atStart=>exact⟨0,by omega,rfl,HO0,HB0⟩
 case round=>
  clear HO0 HB0;obtain⟨i,hi,rfl,HO1,HB1⟩:=hrel;by_cases hi5:i<5
  ·have hi2:(i:Int)-2≤2:=by omega
   go_wp2_with fail;go_loopw [1,3] (fun v kk wr=>∃j:Nat,j≤5∧kk=J Y ((j:Int)-2)∧Hid (wr.ownsRow w.heap.size 43 4 v (aB (i*125+j*25)).length (ea (aB (i*125+j*25))))∧Hid (Below w.heap.size w wr)) (fun _ kk _=>(3-intOf kk).toNat)
   case atStart=>exact⟨0,by omega,rfl,yz (by have h:=yy HO1;simpa using h),HB1⟩
   case round=>
    clear HO1 HB1;obtain⟨j,hj,rfl,HO2,HB2⟩:=hrel;by_cases hj5:j<5
    ·have hj2:(j:Int)-2≤2:=by omega
     go_wp2_with fail;go_loopw [1,4] (fun v kk wr=>∃l:Nat,l≤5∧kk=J Y ((l:Int)-2)∧Hid (wr.ownsRow w.heap.size 43 4 v (aB (i*125+j*25+l*5)).length (ea (aB (i*125+j*25+l*5))))∧Hid (Below w.heap.size w wr)) (fun _ kk _=>(3-intOf kk).toNat)
     case atStart=>exact⟨0,by omega,rfl,yz (by have h:=yy HO2;simpa using h),HB2⟩
     case round=>
      clear HO2 HB2;obtain⟨l,hl,rfl,HO3,HB3⟩:=hrel;by_cases hl5:l<5
      ·have hl2:(l:Int)-2≤2:=by omega
       go_wp2_with fail;go_loopw [1,5] (fun v kk wr=>∃m:Nat,m≤5∧kk=J Y ((m:Int)-2)∧Hid (wr.ownsRow w.heap.size 43 4 v (aB (i*125+j*25+l*5+m)).length (ea (aB (i*125+j*25+l*5+m))))∧Hid (Below w.heap.size w wr)) (fun _ kk _=>(3-intOf kk).toNat)
       case atStart=>exact⟨0,by omega,rfl,yz (by have h:=yy HO3;simpa using h),HB3⟩
       case round=>
        clear HO3 HB3;obtain⟨m,hm,rfl,HO4,HB4⟩:=hrel;by_cases hm5:m<5
        ·have hm2:(m:Int)-2≤2:=by omega
         have hta:=Gl i j l m hj5 hl5 hm5;have hpl:=lL (i*125+j*25+l*5+m);have HSN:=yz (rT (i*125+j*25+l*5+m));rw[hta]at HSN;clear hta;generalize hke:i*125+j*25+l*5+m=k at *;have hkb:k<625:=by omega
         have HKE:Hid (i*125+j*25+l*5+(m+1)=k+1):=yz (by omega);clear hke;have Z:=an wr (.cells #[J Y ((i:Int)-2),J Y ((j:Int)-2),J Y ((l:Int)-2),J Y ((m:Int)-2)] 43);have HBa:=ax HB4 Z;have HOa:=yz (je (yy HO4) Z);have TA1:=aP wr ((i:Int)-2) ((j:Int)-2) ((l:Int)-2) ((m:Int)-2) 43;clear Z HO4 HB4;go_wp2_with fail;obtain⟨p,hp⟩:∃p,p=(i:Int)-2:=⟨_,rfl⟩
         obtain⟨q,hq⟩:∃p,p=(j:Int)-2:=⟨_,rfl⟩
         obtain⟨r,hr⟩:∃p,p=(l:Int)-2:=⟨_,rfl⟩
         obtain⟨s,hs⟩:∃p,p=(m:Int)-2:=⟨_,rfl⟩
         generalize wr.alloc (.cells #[J Y ((i:Int)-2),J Y ((j:Int)-2),J Y ((l:Int)-2),J Y ((m:Int)-2)] 43)=W1 at HBa HOa TA1 ⊢;refine(bu _ _ _ _ _).mono ?_;rintro e W2 ⟨rfl,hx⟩;have TA2:=TA1.kept TA1.lt hx;have HBb:=ax HBa hx;have HOb:=yz (je (yy HOa) hx);clear hx TA1 HBa HOa;rw[←hp,←hq,←hr,←hs]at HSN;rw[←hp,←hq,←hr,←hs]at TA2;have HG:Hid (pg (p,q,r,s)=aD ((i:Int)-2) ((j:Int)-2) ((l:Int)-2) ((m:Int)-2)):=yz (by rw[←hp,←hq,←hr,←hs];rfl);generalize wr.heap.size=tb at *;cases hrt:aD ((i:Int)-2) ((j:Int)-2) ((l:Int)-2) ((m:Int)-2)
         ·rw[hrt]at HG;rw[yy HG,if_neg (by simp),List.append_nil]at HSN;have HO3:Hid (W2.ownsRow w.heap.size 43 4 u1 (aB (i*125+j*25+l*5+(m+1))).length (ea (aB (i*125+j*25+l*5+(m+1))))):=yz (by rw[yy HKE,yy HSN];exact yy HOb);clear hp hq hr hs;go_wp2_with fail;go_roundw
          case rel=>exact⟨m+1,by omega,by go_num,HO3,HBb⟩
          case measure=>simp[intOf]<;>omega
         ·rw[hrt]at HG;rw[yy HG,if_pos rfl]at HSN;obtain⟨e0,e1,e2,e3⟩:=TA2;have Z1:=an W2 (.cells #[J Y p,J Y q,J Y r,J Y s] 43);have hown:=je (yy HOb) Z1;have B3:=ak (yy HBb) Z1;have hsz:=(yy HBb).size;have HP:=yz hp;have HQ:=yz hq;have HR:=yz hr;have HS:=yz hs;clear Z1 HOb HBb hp hq hr hs;generalize aB k=Pk at *;go_wp2_with (at_builtin;refine wpList_append_own _ rfl _ _ 164 rfl w.heap.size 43 i0 (.agg #[J Y 0,J Y 0,J Y 0,J Y 0]) 4 32 Tryz.underlying164 hinf hz0 hz1 hz2 rfl (by decide) _ _ _ rfl hown ⟨W2.heap.size,0,none⟩ 1 1 (ea [(p,q,r,s)]) rfl rfl ?d2 (fun u hu=>qD hu) ?d3 ?d4 ?d5 ?_)
          case d2=>first | exact fun j u h=>h | exact jz _ _ _
          case d3=>omega
          case d4=>omega
          case d5=>first | omega | (simp;omega)
          intro v7 V7 hown7 hgrow7 _;have HB8:=yz (Ds B3 hown hgrow7 (by simp;omega));have HO8:Hid (V7.ownsRow w.heap.size 43 4 v7 (aB (i*125+j*25+l*5+(m+1))).length (ea (aB (i*125+j*25+l*5+(m+1))))):=yz (by rw[yy HKE,yy HSN,tj,List.length_append];exact hown7);clear hown7 hgrow7 hown B3 e0 e1 e2 e3;go_wp2_with fail;go_roundw
          case rel=>exact⟨m+1,by omega,by go_num,HO8,HB8⟩
          case measure=>simp[intOf]<;>omega
        ·have hm2:¬(m:Int)-2≤2:=by omega
         have hm5':m=5:=by omega
         subst hm5';have HOx:Hid (wr.ownsRow w.heap.size 43 4 u1 (aB (i*125+j*25+(l+1)*5)).length (ea (aB (i*125+j*25+(l+1)*5)))):=yz (by rw[show i*125+j*25+(l+1)*5=i*125+j*25+l*5+5 by omega];exact yy HO4);go_wp2_with fail;go_roundw
         case rel=>exact⟨l+1,by omega,by go_num,HOx,HB4⟩
         case measure=>simp[intOf]<;>omega
      ·have hl2:¬(l:Int)-2≤2:=by omega
       have hl5':l=5:=by omega
       subst hl5';have HOx:Hid (wr.ownsRow w.heap.size 43 4 u1 (aB (i*125+(j+1)*25)).length (ea (aB (i*125+(j+1)*25)))):=yz (by rw[show i*125+(j+1)*25=i*125+j*25+5*5 by omega];exact yy HO3);go_wp2_with fail;go_roundw
       case rel=>exact⟨j+1,by omega,by go_num,HOx,HB3⟩
       case measure=>simp[intOf]<;>omega
    ·have hj2:¬(j:Int)-2≤2:=by omega
     have hj5':j=5:=by omega
     subst hj5';have HOx:Hid (wr.ownsRow w.heap.size 43 4 u1 (aB ((i+1)*125)).length (ea (aB ((i+1)*125)))):=yz (by rw[show (i+1)*125=i*125+5*25 by omega];exact yy HO2);go_wp2_with fail;go_roundw
     case rel=>exact⟨i+1,by omega,by go_num,HOx,HB2⟩
     case measure=>simp[intOf]<;>omega
  ·have hi2:¬(i:Int)-2≤2:=by omega
   have hi5':i=5:=by omega
   subst hi5';go_wp2_with fail;go_ret;exact⟨⟨_,rfl,yy HO1⟩,yy HB1⟩
end
section
open Go.RowKit Go.Deep Go.ChangeShapes
def hZ : List (String × DataW Unit) := [("math/bits.deBruijn32tab", Rows.laid_math_bits_deBruijn32tab), ("math/bits.deBruijn64tab", Rows.laid_math_bits_deBruijn64tab), ("internal/strconv.uint64pow10", Rows.laid_internal_strconv_uint64pow10), ("unicode/utf8.acceptRanges", Rows.laid_unicode_utf8_acceptRanges), ("loop.example/g00577/impl.errNoSky", Rows.laid_loop_example_g00577_impl_errNoSky), ("unicode/utf8.first", Rows.laid_unicode_utf8_first)]
variable {W:World}
theorem FK (h : laidMetH Tryz.prog hZ W) : ∃ p, W.var? Tryz.prog "loop.example/g00577/impl.errNoSky" = some #[.iface 267 (.pointer (some p))] := by
 have h':laidMet Tryz.prog hZ W:=h;have h2:=fu (fu (fu (fu h')));obtain⟨a,s,hv,_⟩:=laid_sentinel h2 nc zV Tryz.underlying162 rowE Tryz.underlying267 Tryz.underlying291 rfl rfl Tryz.underlying9 (by kernel_rfl) (by kernel_rfl);exact⟨a,hv⟩
theorem FJ(os:Os)(args:Array Value):laidMetH Tryz.prog hZ ((World.laidAll Tryz.prog os hZ).forCall (fun _ _=>0) ⟨#[],args,[]⟩).memory:=by
 have h:laidMet Tryz.prog hZ ((World.laidAll Tryz.prog os hZ).forCall (fun _ _=>0) ⟨#[],args,[]⟩).memory:=laidMet_laidAll _ (by kernel_rfl) (by kernel_rfl);exact h
theorem xv(h:W.ShapedOpen Tryz.prog):mL W:=xh.s1_3 W h
end
end Go.Proofs.YtdchjcadhlkpfaaGreatDoor
