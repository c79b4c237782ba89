/- Several texts in one: LooseT. -/
import Derived.Laws.RangeString
import Derived.Laws.RangeAny
import Derived.Lib.OthersKept
import Derived.Test.YtdchjcadhlkpfaaGreatDoorD7
import Derived.Test.YtdchjcadhlkpfaaGreatDoorD5
namespace Go.Proofs.YtdchjcadhlkpfaaGreatDoor
set_option linter.unusedVariables false
set_option linter.unusedSimpArgs false
set_option maxRecDepth 100000
set_option maxHeartbeats 8000000
section
open Go.Value renaming int → J
open Go.IntKind renaming i64 → Z
open Go.RowKit
variable {s:ByteArray} {bi bp br pos x:Nat} {w w' wr:World}
theorem aJ.block{b:Nat}{p q r s:Int}(h:aJ w b p q r s)(e:w'.heap[b]? = w.heap[b]?):aJ w' b p q r s:=by
 obtain⟨h0,h1,h2,h3⟩:=h;exact⟨by rw[World.cell?_of_block (a:=⟨b,0,none⟩) e];exact h0,by rw[World.cell?_of_block (a:=⟨b,1,none⟩) e];exact h1,by rw[World.cell?_of_block (a:=⟨b,2,none⟩) e];exact h2,by rw[World.cell?_of_block (a:=⟨b,3,none⟩) e];exact h3⟩
theorem dx.block{b:Nat}(h:dx w b)(e:w'.heap[b]? = w.heap[b]?):dx w' b:=by
 obtain⟨h0,h1,h2,h3⟩:=h;exact⟨by rw[World.frozen?_of_block (a:=⟨b,0,none⟩) e];exact h0,by rw[World.frozen?_of_block (a:=⟨b,1,none⟩) e];exact h1,by rw[World.frozen?_of_block (a:=⟨b,2,none⟩) e];exact h2,by rw[World.frozen?_of_block (a:=⟨b,3,none⟩) e];exact h3⟩
def og(w wr:World)(s:ByteArray)(br bp bi:Nat)(t:LSt)(pos:Nat):Prop:=
 aJ wr bp t.a t.b t.c t.d∧dx wr bp∧aJ wr br 0 0 0 0∧dx wr br∧wr.heap[bi]? = some (.stringIter s pos)∧Below w.heap.size w wr
theorem og.next{t:LSt}(h:og w wr s br bp bi t pos)(h1:bp≠bi)(h2:br≠bi)(h3:w.heap.size≤bi)(p:Nat):og w (wr.iterAt bi s p) s br bp bi t p:=by
 obtain⟨i1,i2,i3,i4,i5,i6⟩:=h;exact⟨i1.block (Lib.iterAt_other _ _ _ _ _ h1),i2.block (Lib.iterAt_other _ _ _ _ _ h1),i3.block (Lib.iterAt_other _ _ _ _ _ h2),i4.block (Lib.iterAt_other _ _ _ _ _ h2),Lib.iterAt_heap _ _ _ _ _ i5,Lib.below_iterAt i6 h3 _ _⟩
theorem og.cell{t:LSt}(h:og w wr s br bp bi t pos)(hp:t.pl≤3):wr.cell? ⟨bp,t.pl,none⟩=some (J Z t.part)∧wr.frozen? ⟨bp,t.pl,none⟩=false:=by
 obtain⟨⟨c0,c1,c2,c3⟩,⟨f0,f1,f2,f3⟩,_⟩:=h;unfold LSt.part;rcases(show t.pl=0∨t.pl=1∨t.pl=2∨t.pl=3 by omega) with e | e | e | e<;>rw[e]
 ·exact⟨c0,f0⟩
 ·exact⟨c1,f1⟩
 ·exact⟨c2,f2⟩
 ·exact⟨c3,f3⟩
theorem og.put{t:LSt}(h:og w wr s br bp bi t pos)(hp:t.pl≤3)(h1:br≠bp)(h2:bi≠bp)(h3:w.heap.size≤bp)(v:Int):og w (wr.setCell ⟨bp,t.pl,none⟩ (J Z v)) s br bp bi (t.put v) pos:=by
 obtain⟨⟨c0,c1,c2,c3⟩,⟨f0,f1,f2,f3⟩,i3,i4,i5,i6⟩:=h;refine⟨?_,?_,i3.block (Below.heap_setCell _ _ _ _ h1),i4.block (Below.heap_setCell _ _ _ _ h1),(Below.heap_setCell _ _ _ _ h2).trans i5,i6.setCell h3 _⟩
 ·unfold LSt.put;rcases(show t.pl=0∨t.pl=1∨t.pl=2∨t.pl=3 by omega) with e | e | e | e<;>rw[e]<;>(refine⟨?_,?_,?_,?_⟩<;>simp[go_sem,c0,c1,c2,c3])
 ·refine⟨?_,?_,?_,?_⟩<;>simp[go_sem,f0,f1,f2,f3]
theorem Ge(t:LSt)(v:Int):(t.put v).pl=t.pl∧(t.put v).sg=t.sg:=by
 unfold LSt.put;split
 ·exact⟨rfl,rfl⟩
 ·split
  ·exact⟨rfl,rfl⟩
  ·split<;>exact⟨rfl,rfl⟩
theorem xJ(t:LSt)(v:Int):(t.put v).part=v:=by
 unfold LSt.put LSt.part;by_cases h0:t.pl=0
 ·simp[h0]
 ·by_cases h1:t.pl=1
  ·simp[h1]
  ·by_cases h2:t.pl=2
   ·simp[h2]
   ·simp[h0,h1,h2]
theorem EW{t:LSt}{v:Int}(h:okS t)(hv:-5≤v∧v≤5):okS (t.put v):=by
 obtain⟨h0,h1,h2,h3,h4,h5⟩:=h;unfold LSt.put;split
 ·exact⟨h0,h1,hv,h3,h4,h5⟩
 ·split
  ·exact⟨h0,h1,h2,hv,h4,h5⟩
  ·split
   ·exact⟨h0,h1,h2,h3,hv,h5⟩
   ·exact⟨h0,h1,h2,h3,h4,hv⟩
theorem zd{t u:LSt}(h:fl s pos=some t)(hp:pos<s.size)(hs:fC t s[pos].toNat=some u):fl s (pos+1)=some u:=by
 show (fl s pos).bind _=_;rw[h,kD hp];exact hs
theorem zc{t:LSt}(h:fl s pos=some t)(hp:pos<s.size)(hs:fC t s[pos].toNat=none):aL s=⟨0,0,0,0,0,0⟩:=by
 have:fl s (pos+1)=none:=by
  show (fl s pos).bind _=_;rw[h,kD hp];exact hs
 unfold aL;rw[xq this (by omega)];rfl
theorem zC{t:LSt}(h:okS t)(hp:t.pl<3):fC t 44=some { t with pl:=t.pl+1,sg:=1 } ∧ okS { t with pl:=t.pl+1,sg:=1 }:=by
 have ho:okS { t with pl:=t.pl+1,sg:=1 }:=by
  obtain⟨h0,h1,h2⟩:=h;exact⟨by show t.pl+1≤3;omega,.inl rfl,h2⟩
 refine⟨?_,ho⟩;unfold fC tW;rw[if_pos ⟨rfl,hp⟩];show (if _ then _ else _)=_;rw[if_pos (jA ho)]
theorem zE{t:LSt}(h:okS t):fC t 45=some { t with sg:=-1 } ∧ okS { t with sg:=-1 }:=by
 have ho:okS { t with sg:=-1 }:=by
  obtain⟨h0,h1,h2⟩:=h;exact⟨h0,.inr rfl,h2⟩
 refine⟨?_,ho⟩;unfold fC tW;rw[if_neg (fun e=>absurd e.1 (by decide)),if_pos rfl];show (if _ then _ else _)=_;rw[if_pos (jA ho)]
def iB(t:LSt)(x:Nat):Int:=10*t.part+t.sg*((x:Int)-48)
theorem EB{t:LSt}(h:okS t)(h1:48≤x)(h2:x≤57):-59≤iB t x∧iB t x≤59:=by
 have hp:=jA h;unfold iB;rcases h.2.1 with e | e<;>rw[e]<;>omega
theorem zD{t:LSt}(h:okS t)(h1:48≤x)(h2:x≤57)(hv:-5≤iB t x∧iB t x≤5):fC t x=some (t.put (iB t x))∧okS (t.put (iB t x)):=by
 refine⟨?_,EW h hv⟩;unfold fC tW;rw[if_neg (fun e=>by omega),if_neg (by omega),if_pos ⟨h1,h2⟩];show (if _ then _ else _)=_;rw[if_pos (by rw[xJ];exact hv)];rfl
theorem Ee{t:LSt}(h1:48≤x)(h2:x≤57)(hv:¬(-5≤iB t x∧iB t x≤5)):fC t x=none:=by
 unfold fC tW;rw[if_neg (fun e=>by omega),if_neg (by omega),if_pos ⟨h1,h2⟩];show (if _ then _ else _)=_;rw[if_neg (by rw[xJ];exact hv)]
theorem tX{t:LSt}(h1:¬(x=44∧t.pl<3))(h2:x≠45)(h3:¬(48≤x∧x≤57)):fC t x=none:=by
 unfold fC tW;rw[if_neg h1,if_neg h2,if_neg h3];rfl
theorem sw(s:ByteArray)(w:World)(hs:s.size≤8000):
  Calls Tryz.prog 137 #[.string s] w fun e w'=>e=.returned (.agg #[J Z (aL s).a,J Z (aL s).b,J Z (aL s).c,J Z (aL s).d])∧Below w.heap.size w w':=by
 go_enter Tryz.func137,Tryz.ntmps137;go_wp2_with fail
 have H0:Hid (og w (((w.alloc (.cells #[J Z 0,J Z 0,J Z 0,J Z 0] 43)).alloc (.cells #[J Z 0,J Z 0,J Z 0,J Z 0] 196)).iter s 0) s w.heap.size (w.heap.size+1) (w.heap.size+1+1) st0 0):=yz (by
  refine⟨?_,?_,?_,?_,?_,?_⟩
  ·exact(show aJ _ (w.heap.size+1) 0 0 0 0 by simpa using aP (w.alloc _) 0 0 0 0 _).alloc _
  ·exact(show dx _ (w.heap.size+1) by simpa using ll (w.alloc _) 0 0 0 0 _).kept (by simp) (an _ _)
  ·exact((aP w 0 0 0 0 _).alloc _).alloc _
  ·exact((ll w 0 0 0 0 _).kept (by simp) (an _ _)).kept (by simp;omega) (an _ _)
  ·have:=World.iter_heap ((w.alloc (.cells #[J Z 0,J Z 0,J Z 0,J Z 0] 43)).alloc (.cells #[J Z 0,J Z 0,J Z 0,J Z 0] 196)) s 0;simpa using this
  ·exact eC _ _ _ _)
 generalize ((w.alloc (.cells #[J Z 0,J Z 0,J Z 0,J Z 0] 43)).alloc (.cells #[J Z 0,J Z 0,J Z 0,J Z 0] 196)).iter s 0=w0 at H0 ⊢;have g1:w.heap.size≠w.heap.size+1:=by omega
 have g2:w.heap.size+1≠w.heap.size+1+1:=by omega
 have g3:w.heap.size≠w.heap.size+1+1:=by omega
 have g4:w.heap.size≤w.heap.size+1:=by omega
 have g5:w.heap.size≤w.heap.size+1+1:=by omega
 have g6:w.heap.size≤w.heap.size:=Nat.le_refl _;generalize w.heap.size+1+1=bi at H0 g2 g3 g5 ⊢;generalize w.heap.size+1=bp at H0 g1 g2 g4 ⊢;have HG:=yz (And.intro g1 (And.intro g2 (And.intro g3 (And.intro g4 g5))));clear g1 g2 g3 g4 g5 g6;go_loopw [4,5] (fun u v wr=>∃(t:LSt) (pos:Nat),u=J Z (t.pl:Int)∧v=J Z t.sg∧Hid (fl s pos=some t)∧Hid (okS t)∧Hid (pos≤s.size)∧Hid (og w wr s w.heap.size bp bi t pos)) (fun _ _ wr=>s.size-wr.iterPos bi)
 case atStart=>exact⟨st0,0,rfl,rfl,yz rfl,yz ⟨by decide,.inl rfl,by decide,by decide,by decide,by decide⟩,yz (Nat.zero_le _),H0⟩
 case round=>
  clear H0;obtain⟨t,pos,rfl,rfl,HL,HO,HP,HI⟩:=hrel;have hit:wr.iterPos bi=pos:=by have:=(yy HI).2.2.2.2.1;simp[World.iterPos,this]
  by_cases hp:pos<s.size
  ·obtain⟨W1,hW⟩:∃W,wr.iterAt bi s (pos+(Utf8.decode s pos).2)=W:=⟨_,rfl⟩
   have hnx:∀ty,(Instr.next (.pointer (some ⟨bi,0,none⟩)) true ty).run Tryz.prog wr=.ok (.tuple #[.bool true,J Z pos,.int .i32 (Utf8.decode s pos).1]) W1:=fun ty=>by rw[←hW];exact Lib.run_next_any_at wr bi s pos ty (yy HI).2.2.2.2.1 hp
   have HI1:Hid (og w W1 s w.heap.size bp bi t (pos+(Utf8.decode s pos).2)):=yz (by rw[←hW];exact(yy HI).next (yy HG).2.1 (yy HG).2.2.1 (yy HG).2.2.2.2 _)
   have HD:Hid ((s[pos].toNat<128∧Utf8.decode s pos=(s[pos].toNat,1))∨(128≤s[pos].toNat∧128≤(Utf8.decode s pos).1)):=yz (by
    by_cases h:s[pos].toNat<128
    ·exact .inl ⟨h,decode_ascii s pos hp h⟩
    ·exact .inr ⟨by omega,(decode_high s pos hp (by omega)).1⟩)
   have HS:Hid (∀u,fC t s[pos].toNat=some u→fl s (pos+1)=some u):=yz (fun u hu=>zd (yy HL) hp hu);have HX:Hid (fC t s[pos].toNat=none→aL s=⟨0,0,0,0,0,0⟩):=yz (fun hu=>zc (yy HL) hp hu);have hpl:(t.pl:Int)≤3:=by have:=(yy HO).1;omega
   clear hW HI HL;obtain⟨r,hr⟩:∃r,(Utf8.decode s pos).1=r:=⟨_,rfl⟩
   obtain⟨x,hx⟩:∃x,s[pos].toNat=x:=⟨_,rfl⟩
   obtain⟨q,hq⟩:∃q,pos+(Utf8.decode s pos).2=q:=⟨_,rfl⟩
   rw[hr]at hnx;rw[hq]at HI1;rw[hx]at HS HX
   have HE:Hid ((x<128∧r=x∧q=pos+1)∨(128≤x∧128≤r)):=yz (by
    rcases yy HD with ⟨h1,h2⟩ | ⟨h1,h2⟩
    ·left
     rw[h2]at hr hq;exact⟨by omega,by rw[←hr,←hx],by rw[←hq]⟩
    ·right
     exact⟨by omega,by omega⟩)
   have HQ:Hid (pos+1≤s.size):=yz hp;clear hr hx hq HD hp;by_cases c1:r=44∧t.pl<3
   ·obtain⟨rfl,c2⟩:=c1;obtain⟨rfl,rfl⟩:x=44∧q=pos+1:=by rcases yy HE with h | h<;>omega
    have hst:=zC (yy HO) c2;have HN:=yz (yy HS _ hst.1);have HO2:=yz hst.2;have HI2:Hid (og w W1 s w.heap.size bp bi { t with pl:=t.pl+1,sg:=1 } (pos+1)):=HI1;have hcell:=((yy HI2).cell (yy HO2).1).1;have hpr:=jA hst.2;have hca:((t.pl+1:Nat):Int)=(t.pl:Int)+1:=by omega
    have d1:(t.pl:Int)<3:=by omega
    have d2:(t.pl:Int)+1<4:=by omega
    generalize LSt.part { t with pl:=t.pl+1,sg:=1 } = v at hcell hpr;have hv1:¬v < -5:=by omega
    have hv2:¬5<v:=by omega
    clear hst hpr HS HX HE;go_wp2_with fail;have hi2:W1.iterPos bi=pos+1:=by have:=(yy HI2).2.2.2.2.1;simp[World.iterPos,this]
    have hqs:=yy HQ;exact⟨⟨{ t with pl:=t.pl+1,sg:=1 },pos+1,by rw[←hca],rfl,HN,HO2,HQ,HI2⟩,by omega⟩
   ·by_cases c2:r=45
    ·subst c2;obtain⟨rfl,rfl⟩:x=45∧q=pos+1:=by rcases yy HE with h | h<;>omega
     have hst:=zE (yy HO);have HN:=yz (yy HS _ hst.1);have HO2:=yz hst.2;have HI2:Hid (og w W1 s w.heap.size bp bi { t with sg:=-1 } (pos+1)):=HI1;have hcell:=((yy HI2).cell (yy HO2).1).1;have hpr:=jA hst.2;have d2:(t.pl:Int)<4:=by omega
     generalize LSt.part { t with sg:=-1 } = v at hcell hpr;have hv1:¬v < -5:=by omega
     have hv2:¬5<v:=by omega
     clear hst hpr HS HX HE;go_wp2_with fail;have hi2:W1.iterPos bi=pos+1:=by have:=(yy HI2).2.2.2.2.1;simp[World.iterPos,this]
     have hqs:=yy HQ;exact⟨⟨{ t with sg:=-1 },pos+1,rfl,rfl,HN,HO2,HQ,HI2⟩,by omega⟩
    ·by_cases c3:48≤r∧r≤57
     ·obtain⟨hxr,rfl⟩:x=r∧q=pos+1:=by rcases yy HE with h | h<;>omega
      subst hxr;have hcell:=(yy HI1).cell (yy HO).1;have hsg:=(yy HO).2.1;have hpb:=jA (yy HO);have hdv:=EB (yy HO) c3.1 c3.2;have d2:(t.pl:Int)<4:=by omega
      have e1:(((x:Nat):Int)==44)=false:=by simp;omega
      have e2:(((x:Nat):Int)==45)=false:=by simp;omega
      have e3:(48:Int)≤(x:Int):=by omega
      have e4:(x:Int)≤57:=by omega
      have w1:wrap32 ((x:Int)-48)=(x:Int)-48:=by unfold wrap32;omega
      have w2:wrap64 ((x:Int)-48)=(x:Int)-48:=au (by omega) (by omega);have w3:wrap64 (10*t.part)=10*t.part:=au (by omega) (by omega);have w4:wrap64 (t.sg*((x:Int)-48))=t.sg*((x:Int)-48):=by rcases hsg with e | e<;>rw[e]<;>exact au (by omega) (by omega)
      have w5:wrap64 (10*t.part+t.sg*((x:Int)-48))=iB t x:=by unfold iB at hdv ⊢;exact au (by omega) (by omega)
      obtain⟨hc,hf⟩:=hcell;by_cases c4:-5≤iB t x∧iB t x≤5
      ·have hst:=zD (yy HO) c3.1 c3.2 c4;have HN:=yz (yy HS _ hst.1);have HO2:=yz hst.2;have HI2:=yz ((yy HI1).put (yy HO).1 (yy HG).1 (Ne.symm (yy HG).2.1) (yy HG).2.2.2.1 (iB t x));have hpp:=Ge t (iB t x);have hv1:¬iB t x < -5:=by omega
       have hv2:¬5<iB t x:=by omega
       clear hst HS HX HE hsg hpb hdv c1 c2 c3 c4;go_wp2_with fail;have hi2:(W1.setCell ⟨bp,t.pl,none⟩ (J Z (iB t x))).iterPos bi=pos+1:=by have:=(yy HI2).2.2.2.2.1;simp[World.iterPos,this]
       have hqs:=yy HQ;exact⟨⟨t.put (iB t x),pos+1,by rw[hpp.1],by rw[hpp.2],HN,HO2,HQ,HI2⟩,by omega⟩
      ·have HZ:=yz (yy HX (Ee c3.1 c3.2 c4));have hvv:iB t x < -5∨(¬iB t x < -5∧5<iB t x):=by omega
       clear HS HX HE hsg hpb hdv c1 c2 c3 c4;obtain⟨cr0,cr1,cr2,cr3⟩:=(yy HI1).2.2.1;obtain⟨fr0,fr1,fr2,fr3⟩:=(yy HI1).2.2.2.1;have n1:w.heap.size≠bp:=(yy HG).1;have n2:bp≠w.heap.size:=Ne.symm n1;have HB:=yz ((yy HI1).2.2.2.2.2.setCell (p:=⟨bp,t.pl,none⟩) (yy HG).2.2.2.1 (J Z (iB t x)));rcases hvv with hv | ⟨hv,hv2⟩
       ·go_wp2_with fail;exact bodyPost_ret (v:=.agg #[J Z 0,J Z 0,J Z 0,J Z 0]) (by simp[results,Tryz.results137,go_sem,cr0,cr1,cr2,cr3]) rfl ⟨by rw[yy HZ],eX (yy HB) (Nat.le_refl _) _ _ _ _⟩
       ·go_wp2_with fail;exact bodyPost_ret (v:=.agg #[J Z 0,J Z 0,J Z 0,J Z 0]) (by simp[results,Tryz.results137,go_sem,cr0,cr1,cr2,cr3]) rfl ⟨by rw[yy HZ],eX (yy HB) (Nat.le_refl _) _ _ _ _⟩
     ·have HZ:Hid (aL s=⟨0,0,0,0,0,0⟩):=yz (yy HX (by
       rcases yy HE with h | h
       ·obtain⟨_,rfl,_⟩:=h;exact tX c1 c2 c3
       ·exact tX (by omega) (by omega) (by omega)))
      obtain⟨cr0,cr1,cr2,cr3⟩:=(yy HI1).2.2.1;obtain⟨fr0,fr1,fr2,fr3⟩:=(yy HI1).2.2.2.1;have HB:=yz (yy HI1).2.2.2.2.2;have e2:(((r:Nat):Int)==45)=false:=by simp;omega
      by_cases c5:r=44
      ·subst c5;have d1:¬(t.pl:Int)<3:=by omega
       clear HS HX HE c1 c2 c3;go_wp2_with fail;exact bodyPost_ret (v:=.agg #[J Z 0,J Z 0,J Z 0,J Z 0]) (by simp[results,Tryz.results137,go_sem,cr0,cr1,cr2,cr3]) rfl ⟨by rw[yy HZ],eX (yy HB) (Nat.le_refl _) _ _ _ _⟩
      ·have e1:(((r:Nat):Int)==44)=false:=by simp;omega
       have e3:¬(48:Int)≤(r:Int)∨((48:Int)≤(r:Int)∧¬(r:Int)≤57):=by omega
       clear HS HX HE c1 c2 c3 c5;rcases e3 with e3 | ⟨e3,e4⟩
       ·go_wp2_with fail;exact bodyPost_ret (v:=.agg #[J Z 0,J Z 0,J Z 0,J Z 0]) (by simp[results,Tryz.results137,go_sem,cr0,cr1,cr2,cr3]) rfl ⟨by rw[yy HZ],eX (yy HB) (Nat.le_refl _) _ _ _ _⟩
       ·go_wp2_with fail;exact bodyPost_ret (v:=.agg #[J Z 0,J Z 0,J Z 0,J Z 0]) (by simp[results,Tryz.results137,go_sem,cr0,cr1,cr2,cr3]) rfl ⟨by rw[yy HZ],eX (yy HB) (Nat.le_refl _) _ _ _ _⟩
  ·have hps:pos=s.size:=by have:=yy HP;omega
   subst hps;have hnx:∀ty,(Instr.next (.pointer (some ⟨bi,0,none⟩)) true ty).run Tryz.prog wr=.ok (.tuple #[.bool false]) wr:=fun ty=>Lib.run_next_end_at wr bi s s.size ty (yy HI).2.2.2.2.1 (by omega);have HZ:Hid (aL s=t):=yz (by unfold aL;rw[yy HL];rfl);obtain⟨ca0,ca1,ca2,ca3⟩:=(yy HI).1;obtain⟨cr0,cr1,cr2,cr3⟩:=(yy HI).2.2.1;obtain⟨fr0,fr1,fr2,fr3⟩:=(yy HI).2.2.2.1;have HB:=yz (yy HI).2.2.2.2.2;clear HI HL HO HP hit hp;go_wp2_with fail;exact bodyPost_ret (v:=.agg #[J Z t.a,J Z t.b,J Z t.c,J Z t.d]) (by simp[results,Tryz.results137,go_sem,cr0,cr1,cr2,cr3]) rfl ⟨by rw[yy HZ],eX (yy HB) (Nat.le_refl _) _ _ _ _⟩
end
end Go.Proofs.YtdchjcadhlkpfaaGreatDoor
