/- Several texts in one: TurnG, ModA, ModC, ModD, ModE, ModG, AppO, ModH, ModB, ModJ, ListI, StrS, DkA. -/
import Derived.Laws.AppendOwn
import Derived.Laws.EntriesVeiled
import Derived.Test.YtdchjcadhlkpfaaGreatDoorD8
namespace Go.Proofs.YtdchjcadhlkpfaaGreatDoor
set_option linter.unusedVariables false
set_option linter.unusedSimpArgs false
set_option maxRecDepth 100000
set_option maxHeartbeats 8000000
section
open Go.Value renaming int → J
open Go.IntKind renaming i64 → Z
open Go.RowKit Go.Sort
variable {s1 s2 s3 s4 t1 t2 t3 t4:Int}
theorem pP(h:coR s1 s2 s3 s4 t1 t2 t3 t4=false):Value.agg #[J Z (coP s1 s2 s3 s4 t1 t2 t3 t4 (coA s1 s2 s3 s4 t1 t2 t3 t4)),J Z (coP s1 s2 s3 s4 t1 t2 t3 t4 (coB s1 s2 s3 s4 t1 t2 t3 t4)),J Z (coP s1 s2 s3 s4 t1 t2 t3 t4 (coC s1 s2 s3 s4 t1 t2 t3 t4)),J Z (coP s1 s2 s3 s4 t1 t2 t3 t4 (coD s1 s2 s3 s4 t1 t2 t3 t4)),J Z (coK s1 s2 s3 s4 t1 t2 t3 t4)]=Value.agg #[J Z 0,J Z 0,J Z 0,J Z 0,J Z 1]:=by
 unfold coP coK;rw[h];rfl
theorem Cv(h:coR s1 s2 s3 s4 t1 t2 t3 t4=true):Value.agg #[J Z (coP s1 s2 s3 s4 t1 t2 t3 t4 (coA s1 s2 s3 s4 t1 t2 t3 t4)),J Z (coP s1 s2 s3 s4 t1 t2 t3 t4 (coB s1 s2 s3 s4 t1 t2 t3 t4)),J Z (coP s1 s2 s3 s4 t1 t2 t3 t4 (coC s1 s2 s3 s4 t1 t2 t3 t4)),J Z (coP s1 s2 s3 s4 t1 t2 t3 t4 (coD s1 s2 s3 s4 t1 t2 t3 t4)),J Z (coK s1 s2 s3 s4 t1 t2 t3 t4)]=Value.agg #[J Z (ofP (coA s1 s2 s3 s4 t1 t2 t3 t4) (coB s1 s2 s3 s4 t1 t2 t3 t4) (coC s1 s2 s3 s4 t1 t2 t3 t4) (coD s1 s2 s3 s4 t1 t2 t3 t4) (coA s1 s2 s3 s4 t1 t2 t3 t4)),J Z (ofP (coA s1 s2 s3 s4 t1 t2 t3 t4) (coB s1 s2 s3 s4 t1 t2 t3 t4) (coC s1 s2 s3 s4 t1 t2 t3 t4) (coD s1 s2 s3 s4 t1 t2 t3 t4) (coB s1 s2 s3 s4 t1 t2 t3 t4)),J Z (ofP (coA s1 s2 s3 s4 t1 t2 t3 t4) (coB s1 s2 s3 s4 t1 t2 t3 t4) (coC s1 s2 s3 s4 t1 t2 t3 t4) (coD s1 s2 s3 s4 t1 t2 t3 t4) (coC s1 s2 s3 s4 t1 t2 t3 t4)),J Z (ofP (coA s1 s2 s3 s4 t1 t2 t3 t4) (coB s1 s2 s3 s4 t1 t2 t3 t4) (coC s1 s2 s3 s4 t1 t2 t3 t4) (coD s1 s2 s3 s4 t1 t2 t3 t4) (coD s1 s2 s3 s4 t1 t2 t3 t4)),J Z (ofC (coA s1 s2 s3 s4 t1 t2 t3 t4) (coB s1 s2 s3 s4 t1 t2 t3 t4) (coC s1 s2 s3 s4 t1 t2 t3 t4) (coD s1 s2 s3 s4 t1 t2 t3 t4))]:=by
 unfold coP coK;rw[h];rfl
theorem AD(s1 s2 s3 s4 t1 t2 t3 t4:Int)(w:World)(hs:inT 5 s1 s2 s3 s4=true)(ht:inT 5 t1 t2 t3 t4=true):
  Calls Tryz.prog 138 #[.agg #[J Z s1,J Z s2,J Z s3,J Z s4],.agg #[J Z t1,J Z t2,J Z t3,J Z t4]] w fun e w'=>e=.returned (.agg #[J Z (coA s1 s2 s3 s4 t1 t2 t3 t4),J Z (coB s1 s2 s3 s4 t1 t2 t3 t4),J Z (coC s1 s2 s3 s4 t1 t2 t3 t4),J Z (coD s1 s2 s3 s4 t1 t2 t3 t4)])∧Below w.heap.size w w':=by
 have HA:=yz (Fq hs ht).1;have HB:=yz (Fs hs ht).1;have HC:=yz (Ft hs ht).1;have HD:=yz (Fu hs ht).1;clear hs ht;go_enter Tryz.func138,Tryz.ntmps138;go_wp2;rw[yy HA,yy HB,yy HC,yy HD];exact bodyPost_ret (v:=.agg #[J Z (coA s1 s2 s3 s4 t1 t2 t3 t4),J Z (coB s1 s2 s3 s4 t1 t2 t3 t4),J Z (coC s1 s2 s3 s4 t1 t2 t3 t4),J Z (coD s1 s2 s3 s4 t1 t2 t3 t4)]) (by simp[results,Tryz.results138,go_sem]) rfl ⟨rfl,eC _ _ _ _⟩
theorem kR(s1 s2 s3 s4 t1 t2 t3 t4:Int)(w:World)(hs:inT 5 s1 s2 s3 s4=true)(ht:inT 5 t1 t2 t3 t4=true):
  Calls Tryz.prog 75 #[.agg #[J Z s1,J Z s2,J Z s3,J Z s4],.agg #[J Z t1,J Z t2,J Z t3,J Z t4]] w fun e w'=>e=.returned (.agg #[J Z (ofP (coA s1 s2 s3 s4 t1 t2 t3 t4) (coB s1 s2 s3 s4 t1 t2 t3 t4) (coC s1 s2 s3 s4 t1 t2 t3 t4) (coD s1 s2 s3 s4 t1 t2 t3 t4) (coA s1 s2 s3 s4 t1 t2 t3 t4)),J Z (ofP (coA s1 s2 s3 s4 t1 t2 t3 t4) (coB s1 s2 s3 s4 t1 t2 t3 t4) (coC s1 s2 s3 s4 t1 t2 t3 t4) (coD s1 s2 s3 s4 t1 t2 t3 t4) (coB s1 s2 s3 s4 t1 t2 t3 t4)),J Z (ofP (coA s1 s2 s3 s4 t1 t2 t3 t4) (coB s1 s2 s3 s4 t1 t2 t3 t4) (coC s1 s2 s3 s4 t1 t2 t3 t4) (coD s1 s2 s3 s4 t1 t2 t3 t4) (coC s1 s2 s3 s4 t1 t2 t3 t4)),J Z (ofP (coA s1 s2 s3 s4 t1 t2 t3 t4) (coB s1 s2 s3 s4 t1 t2 t3 t4) (coC s1 s2 s3 s4 t1 t2 t3 t4) (coD s1 s2 s3 s4 t1 t2 t3 t4) (coD s1 s2 s3 s4 t1 t2 t3 t4)),J Z (ofC (coA s1 s2 s3 s4 t1 t2 t3 t4) (coB s1 s2 s3 s4 t1 t2 t3 t4) (coC s1 s2 s3 s4 t1 t2 t3 t4) (coD s1 s2 s3 s4 t1 t2 t3 t4))])∧Below w.heap.size w w':=by
 have HA:=yz (Fq hs ht).1;have HB:=yz (Fs hs ht).1;have HC:=yz (Ft hs ht).1;have HD:=yz (Fu hs ht).1;clear hs ht;go_enter Tryz.func75,Tryz.ntmps75;go_wp2_with fail;rw[yy HA,yy HB,yy HC,yy HD];refine(kW _ _ _ _ _).mono ?_;rintro e w1 ⟨rfl,hx⟩;have vr:dN w1 (w.heap.size+1+1) 0 0 0 0 0:=(by simpa using dl ((w.alloc _).alloc _) 0 0 0 0 0 _:dN _ (w.heap.size+1+1) 0 0 0 0 0).kept hx;have fr:iT w1 (w.heap.size+1+1):=(by simpa using fZ ((w.alloc _).alloc _) 0 0 0 0 0 _:iT _ (w.heap.size+1+1)).kept (by simp) hx;have hB:Below w.heap.size w w1:=ak (eC _ _ _ _) hx;clear hx HA HB HC HD;obtain⟨cr0,cr1,cr2,cr3,cr4⟩:=vr;obtain⟨fr0,fr1,fr2,fr3,fr4⟩:=fr;go_wp2_with fail;exact bodyPost_ret (v:=.agg #[J Z (ofP (coA s1 s2 s3 s4 t1 t2 t3 t4) (coB s1 s2 s3 s4 t1 t2 t3 t4) (coC s1 s2 s3 s4 t1 t2 t3 t4) (coD s1 s2 s3 s4 t1 t2 t3 t4) (coA s1 s2 s3 s4 t1 t2 t3 t4)),J Z (ofP (coA s1 s2 s3 s4 t1 t2 t3 t4) (coB s1 s2 s3 s4 t1 t2 t3 t4) (coC s1 s2 s3 s4 t1 t2 t3 t4) (coD s1 s2 s3 s4 t1 t2 t3 t4) (coB s1 s2 s3 s4 t1 t2 t3 t4)),J Z (ofP (coA s1 s2 s3 s4 t1 t2 t3 t4) (coB s1 s2 s3 s4 t1 t2 t3 t4) (coC s1 s2 s3 s4 t1 t2 t3 t4) (coD s1 s2 s3 s4 t1 t2 t3 t4) (coC s1 s2 s3 s4 t1 t2 t3 t4)),J Z (ofP (coA s1 s2 s3 s4 t1 t2 t3 t4) (coB s1 s2 s3 s4 t1 t2 t3 t4) (coC s1 s2 s3 s4 t1 t2 t3 t4) (coD s1 s2 s3 s4 t1 t2 t3 t4) (coD s1 s2 s3 s4 t1 t2 t3 t4)),J Z (ofC (coA s1 s2 s3 s4 t1 t2 t3 t4) (coB s1 s2 s3 s4 t1 t2 t3 t4) (coC s1 s2 s3 s4 t1 t2 t3 t4) (coD s1 s2 s3 s4 t1 t2 t3 t4))]) (by simp[results,Tryz.results75,go_sem,cr0,cr1,cr2,cr3,cr4]) rfl ⟨rfl,bd hB (by omega) _ _ _ _ _⟩
theorem wo(s1 s2 s3 s4 t1 t2 t3 t4:Int)(w:World):
  Calls Tryz.prog 112 #[.agg #[J Z s1,J Z s2,J Z s3,J Z s4],.agg #[J Z t1,J Z t2,J Z t3,J Z t4]] w fun e w'=>e=.returned (.agg #[J Z (coP s1 s2 s3 s4 t1 t2 t3 t4 (coA s1 s2 s3 s4 t1 t2 t3 t4)),J Z (coP s1 s2 s3 s4 t1 t2 t3 t4 (coB s1 s2 s3 s4 t1 t2 t3 t4)),J Z (coP s1 s2 s3 s4 t1 t2 t3 t4 (coC s1 s2 s3 s4 t1 t2 t3 t4)),J Z (coP s1 s2 s3 s4 t1 t2 t3 t4 (coD s1 s2 s3 s4 t1 t2 t3 t4)),J Z (coK s1 s2 s3 s4 t1 t2 t3 t4)])∧Below w.heap.size w w':=by
 go_enter Tryz.func112,Tryz.ntmps112;go_wp2_with fail;refine(bw s1 s2 s3 s4 _).mono ?_;rintro e w1 ⟨rfl,hx⟩;have va:aJ w1 w.heap.size s1 s2 s3 s4:=(((aP w s1 s2 s3 s4 _).alloc _).alloc _).kept (by simp;omega) hx;have vb:aJ w1 (w.heap.size+1) t1 t2 t3 t4:=((by simpa using aP (w.alloc _) t1 t2 t3 t4 _:aJ _ (w.heap.size+1) t1 t2 t3 t4).alloc _).kept (by simp) hx;have vr:dN w1 (w.heap.size+1+1) 0 0 0 0 0:=(by simpa using dl ((w.alloc _).alloc _) 0 0 0 0 0 _:dN _ (w.heap.size+1+1) 0 0 0 0 0).kept hx;have fr:iT w1 (w.heap.size+1+1):=(by simpa using fZ ((w.alloc _).alloc _) 0 0 0 0 0 _:iT _ (w.heap.size+1+1)).kept (by simp) hx;have hB:Below w.heap.size w w1:=ak (eC _ _ _ _) hx;clear hx;cases h1:aD s1 s2 s3 s4
 ·have HR:=yz (pP (s1:=s1) (s2:=s2) (s3:=s3) (s4:=s4) (t1:=t1) (t2:=t2) (t3:=t3) (t4:=t4) (by rw[coR,h1];rfl));obtain⟨cr0,cr1,cr2,cr3,cr4⟩:=vr;obtain⟨fr0,fr1,fr2,fr3,fr4⟩:=fr;go_wp2_with fail;exact bodyPost_ret (v:=.agg #[J Z 0,J Z 0,J Z 0,J Z 0,J Z 1]) (by simp[results,Tryz.results112,go_sem,cr0,cr1,cr2,cr3,cr4]) rfl ⟨by rw[yy HR],bd hB (by omega) _ _ _ _ _⟩
 ·have wa:=va;have wb:=vb;obtain⟨ca0,ca1,ca2,ca3⟩:=wa;obtain⟨cb0,cb1,cb2,cb3⟩:=wb;go_wp2_with fail;clear ca0 ca1 ca2 ca3 cb0 cb1 cb2 cb3;refine(bw t1 t2 t3 t4 _).mono ?_;rintro e w2 ⟨rfl,hx⟩;have hlt:=vr.lt;replace va:=va.kept va.lt hx;replace vb:=vb.kept vb.lt hx;replace vr:=vr.kept hx;replace fr:=fr.kept hlt hx;replace hB:=ak hB hx;clear hx hlt;cases h2:aD t1 t2 t3 t4
  ·have HR:=yz (pP (s1:=s1) (s2:=s2) (s3:=s3) (s4:=s4) (t1:=t1) (t2:=t2) (t3:=t3) (t4:=t4) (by rw[coR,h1,h2];rfl));obtain⟨cr0,cr1,cr2,cr3,cr4⟩:=vr;obtain⟨fr0,fr1,fr2,fr3,fr4⟩:=fr;go_wp2_with fail;exact bodyPost_ret (v:=.agg #[J Z 0,J Z 0,J Z 0,J Z 0,J Z 1]) (by simp[results,Tryz.results112,go_sem,cr0,cr1,cr2,cr3,cr4]) rfl ⟨by rw[yy HR],bd hB (by omega) _ _ _ _ _⟩
  ·have wa:=va;have wb:=vb;obtain⟨ca0,ca1,ca2,ca3⟩:=wa;obtain⟨cb0,cb1,cb2,cb3⟩:=wb;go_wp2_with fail;clear ca0 ca1 ca2 ca3 cb0 cb1 cb2 cb3;have HR:=yz (Cv (s1:=s1) (s2:=s2) (s3:=s3) (s4:=s4) (t1:=t1) (t2:=t2) (t3:=t3) (t4:=t4) (by rw[coR,h1,h2];rfl));refine(AD s1 s2 s3 s4 t1 t2 t3 t4 _ (bg.1 h1).1 (bg.1 h2).1).mono ?_;rintro e w3 ⟨rfl,hx⟩;have hlt:=vr.lt;replace vr:=(vr.kept hx).alloc (.cells #[J Z (coA s1 s2 s3 s4 t1 t2 t3 t4),J Z (coB s1 s2 s3 s4 t1 t2 t3 t4),J Z (coC s1 s2 s3 s4 t1 t2 t3 t4),J Z (coD s1 s2 s3 s4 t1 t2 t3 t4)] 43);replace fr:=(fr.kept hlt hx).kept (Nat.lt_of_lt_of_le hlt hx.size) (an _ (.cells #[J Z (coA s1 s2 s3 s4 t1 t2 t3 t4),J Z (coB s1 s2 s3 s4 t1 t2 t3 t4),J Z (coC s1 s2 s3 s4 t1 t2 t3 t4),J Z (coD s1 s2 s3 s4 t1 t2 t3 t4)] 43));replace hB:=(ak hB hx).alloc (ak hB hx).size (.cells #[J Z (coA s1 s2 s3 s4 t1 t2 t3 t4),J Z (coB s1 s2 s3 s4 t1 t2 t3 t4),J Z (coC s1 s2 s3 s4 t1 t2 t3 t4),J Z (coD s1 s2 s3 s4 t1 t2 t3 t4)] 43);clear hx hlt va vb;go_wp2_with fail;refine(zG _ _ _ _ _).mono ?_;rintro e w4 ⟨rfl,hx⟩;have hlt:=vr.lt;replace vr:=vr.kept hx;replace fr:=fr.kept hlt hx;replace hB:=ak hB hx;clear hx hlt;obtain⟨cr0,cr1,cr2,cr3,cr4⟩:=vr;obtain⟨fr0,fr1,fr2,fr3,fr4⟩:=fr;go_wp2_with fail;exact bodyPost_ret (v:=.agg #[J Z (ofP (coA s1 s2 s3 s4 t1 t2 t3 t4) (coB s1 s2 s3 s4 t1 t2 t3 t4) (coC s1 s2 s3 s4 t1 t2 t3 t4) (coD s1 s2 s3 s4 t1 t2 t3 t4) (coA s1 s2 s3 s4 t1 t2 t3 t4)),J Z (ofP (coA s1 s2 s3 s4 t1 t2 t3 t4) (coB s1 s2 s3 s4 t1 t2 t3 t4) (coC s1 s2 s3 s4 t1 t2 t3 t4) (coD s1 s2 s3 s4 t1 t2 t3 t4) (coB s1 s2 s3 s4 t1 t2 t3 t4)),J Z (ofP (coA s1 s2 s3 s4 t1 t2 t3 t4) (coB s1 s2 s3 s4 t1 t2 t3 t4) (coC s1 s2 s3 s4 t1 t2 t3 t4) (coD s1 s2 s3 s4 t1 t2 t3 t4) (coC s1 s2 s3 s4 t1 t2 t3 t4)),J Z (ofP (coA s1 s2 s3 s4 t1 t2 t3 t4) (coB s1 s2 s3 s4 t1 t2 t3 t4) (coC s1 s2 s3 s4 t1 t2 t3 t4) (coD s1 s2 s3 s4 t1 t2 t3 t4) (coD s1 s2 s3 s4 t1 t2 t3 t4)),J Z (ofC (coA s1 s2 s3 s4 t1 t2 t3 t4) (coB s1 s2 s3 s4 t1 t2 t3 t4) (coC s1 s2 s3 s4 t1 t2 t3 t4) (coD s1 s2 s3 s4 t1 t2 t3 t4))]) (by simp[results,Tryz.results112,go_sem,cr0,cr1,cr2,cr3,cr4]) rfl ⟨by rw[yy HR],bd hB (by omega) _ _ _ _ _⟩
theorem pK(s1 s2 s3 s4 t1 t2 t3 t4:Int)(w:World):
  Calls Tryz.prog 51 #[.agg #[J Z s1,J Z s2,J Z s3,J Z s4],.agg #[J Z t1,J Z t2,J Z t3,J Z t4]] w fun e w'=>e=.returned (.agg #[J Z (coP s1 s2 s3 s4 t1 t2 t3 t4 (coA s1 s2 s3 s4 t1 t2 t3 t4)),J Z (coP s1 s2 s3 s4 t1 t2 t3 t4 (coB s1 s2 s3 s4 t1 t2 t3 t4)),J Z (coP s1 s2 s3 s4 t1 t2 t3 t4 (coC s1 s2 s3 s4 t1 t2 t3 t4)),J Z (coP s1 s2 s3 s4 t1 t2 t3 t4 (coD s1 s2 s3 s4 t1 t2 t3 t4)),J Z (coK s1 s2 s3 s4 t1 t2 t3 t4)])∧Below w.heap.size w w':=by
 go_enter Tryz.func51,Tryz.ntmps51;go_wp2_with fail;refine(bu s1 s2 s3 s4 _).mono ?_;rintro e w1 ⟨rfl,hx⟩;have va:aJ w1 w.heap.size s1 s2 s3 s4:=(((aP w s1 s2 s3 s4 _).alloc _).alloc _).kept (by simp;omega) hx;have vb:aJ w1 (w.heap.size+1) t1 t2 t3 t4:=((by simpa using aP (w.alloc _) t1 t2 t3 t4 _:aJ _ (w.heap.size+1) t1 t2 t3 t4).alloc _).kept (by simp) hx;have vr:dN w1 (w.heap.size+1+1) 0 0 0 0 0:=(by simpa using dl ((w.alloc _).alloc _) 0 0 0 0 0 _:dN _ (w.heap.size+1+1) 0 0 0 0 0).kept hx;have fr:iT w1 (w.heap.size+1+1):=(by simpa using fZ ((w.alloc _).alloc _) 0 0 0 0 0 _:iT _ (w.heap.size+1+1)).kept (by simp) hx;have hB:Below w.heap.size w w1:=ak (eC _ _ _ _) hx;clear hx;cases h1:aD s1 s2 s3 s4
 ·have HR:=yz (pP (s1:=s1) (s2:=s2) (s3:=s3) (s4:=s4) (t1:=t1) (t2:=t2) (t3:=t3) (t4:=t4) (by rw[coR,h1];rfl));obtain⟨cr0,cr1,cr2,cr3,cr4⟩:=vr;obtain⟨fr0,fr1,fr2,fr3,fr4⟩:=fr;go_wp2_with fail;exact bodyPost_ret (v:=.agg #[J Z 0,J Z 0,J Z 0,J Z 0,J Z 1]) (by simp[results,Tryz.results51,go_sem,cr0,cr1,cr2,cr3,cr4]) rfl ⟨by rw[yy HR],bd hB (by omega) _ _ _ _ _⟩
 ·have wa:=va;have wb:=vb;obtain⟨ca0,ca1,ca2,ca3⟩:=wa;obtain⟨cb0,cb1,cb2,cb3⟩:=wb;go_wp2_with fail;clear ca0 ca1 ca2 ca3 cb0 cb1 cb2 cb3;refine(bu t1 t2 t3 t4 _).mono ?_;rintro e w2 ⟨rfl,hx⟩;have hlt:=vr.lt;replace va:=va.kept va.lt hx;replace vb:=vb.kept vb.lt hx;replace vr:=vr.kept hx;replace fr:=fr.kept hlt hx;replace hB:=ak hB hx;clear hx hlt;cases h2:aD t1 t2 t3 t4
  ·have HR:=yz (pP (s1:=s1) (s2:=s2) (s3:=s3) (s4:=s4) (t1:=t1) (t2:=t2) (t3:=t3) (t4:=t4) (by rw[coR,h1,h2];rfl));obtain⟨cr0,cr1,cr2,cr3,cr4⟩:=vr;obtain⟨fr0,fr1,fr2,fr3,fr4⟩:=fr;go_wp2_with fail;exact bodyPost_ret (v:=.agg #[J Z 0,J Z 0,J Z 0,J Z 0,J Z 1]) (by simp[results,Tryz.results51,go_sem,cr0,cr1,cr2,cr3,cr4]) rfl ⟨by rw[yy HR],bd hB (by omega) _ _ _ _ _⟩
  ·have wa:=va;have wb:=vb;obtain⟨ca0,ca1,ca2,ca3⟩:=wa;obtain⟨cb0,cb1,cb2,cb3⟩:=wb;go_wp2_with fail;clear ca0 ca1 ca2 ca3 cb0 cb1 cb2 cb3;have HR:=yz (Cv (s1:=s1) (s2:=s2) (s3:=s3) (s4:=s4) (t1:=t1) (t2:=t2) (t3:=t3) (t4:=t4) (by rw[coR,h1,h2];rfl));refine(kR s1 s2 s3 s4 t1 t2 t3 t4 _ (bg.1 h1).1 (bg.1 h2).1).mono ?_;rintro e w3 ⟨rfl,hx⟩;have hlt:=vr.lt;replace vr:=vr.kept hx;replace fr:=fr.kept hlt hx;replace hB:=ak hB hx;clear hx hlt va vb;obtain⟨cr0,cr1,cr2,cr3,cr4⟩:=vr;obtain⟨fr0,fr1,fr2,fr3,fr4⟩:=fr;go_wp2_with fail;exact bodyPost_ret (v:=.agg #[J Z (ofP (coA s1 s2 s3 s4 t1 t2 t3 t4) (coB s1 s2 s3 s4 t1 t2 t3 t4) (coC s1 s2 s3 s4 t1 t2 t3 t4) (coD s1 s2 s3 s4 t1 t2 t3 t4) (coA s1 s2 s3 s4 t1 t2 t3 t4)),J Z (ofP (coA s1 s2 s3 s4 t1 t2 t3 t4) (coB s1 s2 s3 s4 t1 t2 t3 t4) (coC s1 s2 s3 s4 t1 t2 t3 t4) (coD s1 s2 s3 s4 t1 t2 t3 t4) (coB s1 s2 s3 s4 t1 t2 t3 t4)),J Z (ofP (coA s1 s2 s3 s4 t1 t2 t3 t4) (coB s1 s2 s3 s4 t1 t2 t3 t4) (coC s1 s2 s3 s4 t1 t2 t3 t4) (coD s1 s2 s3 s4 t1 t2 t3 t4) (coC s1 s2 s3 s4 t1 t2 t3 t4)),J Z (ofP (coA s1 s2 s3 s4 t1 t2 t3 t4) (coB s1 s2 s3 s4 t1 t2 t3 t4) (coC s1 s2 s3 s4 t1 t2 t3 t4) (coD s1 s2 s3 s4 t1 t2 t3 t4) (coD s1 s2 s3 s4 t1 t2 t3 t4)),J Z (ofC (coA s1 s2 s3 s4 t1 t2 t3 t4) (coB s1 s2 s3 s4 t1 t2 t3 t4) (coC s1 s2 s3 s4 t1 t2 t3 t4) (coD s1 s2 s3 s4 t1 t2 t3 t4))]) (by simp[results,Tryz.results51,go_sem,cr0,cr1,cr2,cr3,cr4]) rfl ⟨by rw[yy HR],bd hB (by omega) _ _ _ _ _⟩
def eu(w:World)(b:Nat)(v:Value)(lim mode A B C D coast fr:Int):Prop:=w.cell? ⟨b,0,none⟩=some v∧w.cell? ⟨b,1,none⟩=some (J Z lim)∧w.cell? ⟨b,2,none⟩=some (J Z mode)∧w.cell? ⟨b,3,none⟩=some (J Z A)∧w.cell? ⟨b,4,none⟩=some (J Z B)∧w.cell? ⟨b,5,none⟩=some (J Z C)∧w.cell? ⟨b,6,none⟩=some (J Z D)∧w.cell? ⟨b,7,none⟩=some (J Z coast)∧w.cell? ⟨b,8,none⟩=some (J Z fr)
variable {v:Value} {w w':World}
theorem lS{a:Addr}(h:w.cell? a=some v)(hB:Below w.heap.size w w'):w'.cell? a=some v:=(hB.cell (World.block_lt_of_cell? w a h)).trans h
theorem eu.kept{b:Nat}{lim mode A B C D coast fr:Int}(h:eu w b v lim mode A B C D coast fr)(hB:Below w.heap.size w w'):eu w' b v lim mode A B C D coast fr:=by
 obtain⟨h0,h1,h2,h3,h4,h5,h6,h7,h8⟩:=h;exact⟨lS h0 hB,lS h1 hB,lS h2 hB,lS h3 hB,lS h4 hB,lS h5 hB,lS h6 hB,lS h7 hB,lS h8 hB⟩
theorem dY(w:World)(v:Value)(lim mode A B C D coast fr:Int)(t:TypeId):eu (w.alloc (.cells #[v,J Z lim,J Z mode,J Z A,J Z B,J Z C,J Z D,J Z coast,J Z fr] t)) w.heap.size v lim mode A B C D coast fr:=by
 refine⟨?_,?_,?_,?_,?_,?_,?_,?_,?_⟩<;>simp
theorem eu.lt{b:Nat}{lim mode A B C D coast fr:Int}(h:eu w b v lim mode A B C D coast fr):b<w.heap.size:=World.block_lt_of_cell? w _ h.1
theorem gO(L:List St)(lim mode A B C D coast fr:Int)(a:Option Addr)(c:Nat)(p:Addr)(w:World)(hn:L.length≤1048576)(hcap:L.length≤c)(hc9:c≤9223372036854775807)(hS:aZ w a L L.length)(hE:bE p w):
  Calls Tryz.prog 67 #[.agg #[.slice a L.length c,J Z lim,J Z mode,J Z A,J Z B,J Z C,J Z D,J Z coast,J Z fr]] w fun e w'=>e=.returned (.bool (aH ⟨L,lim,mode,A,B,C,D,coast,fr⟩))∧Below w.heap.size w w':=by
 have B0:=an w (.cells #[.slice a L.length c,J Z lim,J Z mode,J Z A,J Z B,J Z C,J Z D,J Z coast,J Z fr] 45);have T0:=dY w (.slice a L.length c) lim mode A B C D coast fr 45;have cS:=yz (fz L a c p _ hn hcap hc9 (hS.kept B0) (hE.kept B0));have HB0:=yz B0;have HT0:=yz T0;clear B0 T0 hS hE hn hcap hc9;go_enter Tryz.func67,Tryz.ntmps67;go_wp2_with fail;refine(yy cS).mono ?_;rintro e w1 ⟨rfl,hx⟩;have T1:=ap HT0 hx;have B1:=ax HB0 hx;clear hx cS HT0 HB0;obtain⟨c0,c1,c2,c3,c4,c5,c6,c7,c8⟩:=yy T1;cases hk:bc L
 ·have HO:=yz (lH (t:=⟨L,lim,mode,A,B,C,D,coast,fr⟩) hk);go_wp2_with fail;go_ret;exact⟨by rw[yy HO];rfl,yy B1⟩
 by_cases q1:lim<1
 ·have HO:=yz (lI (t:=⟨L,lim,mode,A,B,C,D,coast,fr⟩) (rD (by show ¬1≤lim;omega)));go_wp2_with fail;go_ret;exact⟨by rw[yy HO];rfl,yy B1⟩
 by_cases q2:(5:Int)<lim
 ·have HO:=yz (lI (t:=⟨L,lim,mode,A,B,C,D,coast,fr⟩) (tS (by show ¬lim≤5;omega)));go_wp2_with fail;go_ret;exact⟨by rw[yy HO];rfl,yy B1⟩
 by_cases q3:fr<0
 ·have HO:=yz (lJ (t:=⟨L,lim,mode,A,B,C,D,coast,fr⟩) (rD (by show ¬0≤fr;omega)));go_wp2_with fail;go_ret;exact⟨by rw[yy HO];rfl,yy B1⟩
 by_cases q4:(1000000:Int)<fr
 ·have HO:=yz (lJ (t:=⟨L,lim,mode,A,B,C,D,coast,fr⟩) (tS (by show ¬fr≤1000000;omega)));go_wp2_with fail;go_ret;exact⟨by rw[yy HO];rfl,yy B1⟩
 have HH:=yz (mG (t:=⟨L,lim,mode,A,B,C,D,coast,fr⟩) hk (nP (by show 1≤lim;omega) (by show lim≤5;omega)) (nP (by show 0≤fr;omega) (by show fr≤1000000;omega)));clear hk;by_cases m0:mode=0
 ·have HO:Hid (aH ⟨L,lim,mode,A,B,C,D,coast,fr⟩=(eqT A B C D 0 0 0 0&&decide (coast=0))):=yz (by rw[yy HH,zf m0]);have hq:=fun W=>na A B C D 0 0 0 0 W;cases hz:eqT A B C D 0 0 0 0
  ·rw[hz]at HO hq;go_wp2_with fail;go_ret;exact⟨by rw[yy HO];rfl,yy B1⟩
  ·rw[hz]at HO hq;go_wp2_with fail;go_ret;exact⟨by rw[yy HO];rfl,yy B1⟩
 by_cases m1:mode=1
 ·have HO:Hid (aH ⟨L,lim,mode,A,B,C,D,coast,fr⟩=(aD A B C D&&decide (coast=0))):=yz (by rw[yy HH,kU m1]);subst m1;go_wp2_with fail;refine(bw A B C D _).mono ?_;rintro e w2 ⟨rfl,hx⟩;have B2:=ax B1 hx;obtain⟨d0,d1,d2,d3,d4,d5,d6,d7,d8⟩:=(yy T1).kept hx;clear hx c0 c1 c2 c3 c4 c5 c6 c7 c8;cases hz:aD A B C D
  ·rw[hz]at HO;go_wp2_with fail;go_ret;exact⟨by rw[yy HO];rfl,yy B2⟩
  ·rw[hz]at HO;go_wp2_with fail;go_ret;exact⟨by rw[yy HO];rfl,yy B2⟩
 by_cases m2:mode=2
 ·have HO:Hid (aH ⟨L,lim,mode,A,B,C,D,coast,fr⟩=(aD A B C D&&dX 1 lim coast)):=yz (by rw[yy HH,ms m2]);subst m2;go_wp2_with fail;refine(bw A B C D _).mono ?_;rintro e w2 ⟨rfl,hx⟩;have B2:=ax B1 hx;obtain⟨d0,d1,d2,d3,d4,d5,d6,d7,d8⟩:=(yy T1).kept hx;clear hx c0 c1 c2 c3 c4 c5 c6 c7 c8;cases hz:aD A B C D
  ·rw[hz]at HO;go_wp2_with fail;go_ret;exact⟨by rw[yy HO];rfl,yy B2⟩
  ·rw[hz]at HO;by_cases u1:1≤coast
   ·have HU:Hid (dX 1 lim coast=decide (coast≤lim)):=yz (by unfold dX;rw[decide_eq_true u1];rfl);go_wp2_with fail;go_ret;exact⟨by rw[yy HO,yy HU];rfl,yy B2⟩
   ·have HU:Hid (dX 1 lim coast=false):=yz (rD u1);go_wp2_with fail;go_ret;exact⟨by rw[yy HO,yy HU];rfl,yy B2⟩
 ·have HO:Hid (aH ⟨L,lim,mode,A,B,C,D,coast,fr⟩=false):=yz (by rw[yy HH,oF m0 m1 m2]);go_wp2_with fail;go_ret;exact⟨by rw[yy HO];rfl,yy B1⟩
end
section
open Go.RowKit Go.Sort
def gk(w:World)(b:Nat):Prop:=∀i,w.frozen? ⟨b,i,none⟩=false
variable {w:World}
theorem gk.kept{w':World}{b:Nat}(h:gk w b)(hb:b<w.heap.size)(hB:Below w.heap.size w w'):gk w' b:=fun i=>(hB.frozen (p:=⟨b,i,none⟩) hb).trans (h i)
theorem dS(w:World)(cs:Array Value)(t:TypeId):gk (w.alloc (.cells cs t)) w.heap.size:=fun i=>by simp
theorem gk.set{b:Nat}(h:gk w b)(p:Addr)(v:Value):gk (w.setCell p v) b:=fun i=>by rw[World.frozen?_setCell];exact h i
theorem mM.far{b n k:Nat}{L:List St}(h:mM w b n L k){b':Nat}(hne:b≠b')(o:Nat)(x:Value):mM (w.setCell ⟨b',o,none⟩ x) b n L k:=by
 obtain⟨cur,hc,r⟩:=h;exact⟨cur,by rw[Below.heap_setCell w ⟨b',o,none⟩ x b hne];exact hc,r⟩
theorem eu.far{b:Nat}{v:Value}{lim mode A B C D coast fr:Int}(h:eu w b v lim mode A B C D coast fr){b':Nat}(hne:b≠b')(o:Nat)(x:Value):eu (w.setCell ⟨b',o,none⟩ x) b v lim mode A B C D coast fr:=by
 obtain⟨h0,h1,h2,h3,h4,h5,h6,h7,h8⟩:=h;refine⟨?_,?_,?_,?_,?_,?_,?_,?_,?_⟩<;>(rw[World.cell?_setCell_far _ _ _ _ (Ne.symm hne)];assumption)
theorem eo{b:Nat}{u:Value}{lim0 mode0 A0 B0 C0 D0 coast0 fr0:Int}(h:eu w b u lim0 mode0 A0 B0 C0 D0 coast0 fr0)(v:Value)(lim mode A B C D coast fr:Int):eu (((((((((w.setCell ⟨b,0,none⟩ v).setCell ⟨b,1,none⟩ (.int .i64 lim)).setCell ⟨b,2,none⟩ (.int .i64 mode)).setCell ⟨b,3,none⟩ (.int .i64 A)).setCell ⟨b,4,none⟩ (.int .i64 B)).setCell ⟨b,5,none⟩ (.int .i64 C)).setCell ⟨b,6,none⟩ (.int .i64 D)).setCell ⟨b,7,none⟩ (.int .i64 coast)).setCell ⟨b,8,none⟩ (.int .i64 fr)) b v lim mode A B C D coast fr:=by
 obtain⟨h0,h1,h2,h3,h4,h5,h6,h7,h8⟩:=h;refine⟨?_,?_,?_,?_,?_,?_,?_,?_,?_⟩<;>simp[go_sem,h0,h1,h2,h3,h4,h5,h6,h7,h8]
theorem aG{B:Nat}{w1:World}(h:Below B w w1){b:Nat}(hb:B≤b)(o:Nat)(v:Value):Below B w (w1.setCell ⟨b,o,none⟩ v):=h.setCell hb v
def TkO(w:World)(b:Nat)(v:Value)(lim mode A B C D coast fr code:Int):Prop:=eu w b v lim mode A B C D coast fr∧w.cell? ⟨b,9,none⟩=some (.int .i64 code)
variable {code:Int} {v:Value} {w w':World}
theorem TkO.kept{b:Nat}{lim mode A B C D coast fr:Int}(h:TkO w b v lim mode A B C D coast fr code)(hB:Below w.heap.size w w'):TkO w' b v lim mode A B C D coast fr code:=⟨h.1.kept hB,lS h.2 hB⟩
theorem lG(w:World)(v:Value)(lim mode A B C D coast fr code:Int)(t:TypeId):TkO (w.alloc (.cells #[v,.int .i64 lim,.int .i64 mode,.int .i64 A,.int .i64 B,.int .i64 C,.int .i64 D,.int .i64 coast,.int .i64 fr,.int .i64 code] t)) w.heap.size v lim mode A B C D coast fr code:=by
 refine⟨⟨?_,?_,?_,?_,?_,?_,?_,?_,?_⟩,?_⟩<;>simp
theorem lR{a:Addr}{row:Option Nat}(h:w.cell? a=some v)(hg:w.grownBy w' row)(hne:some a.block≠row):w'.cell? a=some v:=(World.cell?_of_block (hg.block a.block (World.block_lt_of_cell? w a h) hne)).trans h
theorem eu.grown{b:Nat}{lim mode A B C D coast fr:Int}{row:Option Nat}(h:eu w b v lim mode A B C D coast fr)(hg:w.grownBy w' row)(hne:some b≠row):eu w' b v lim mode A B C D coast fr:=by
 obtain⟨h0,h1,h2,h3,h4,h5,h6,h7,h8⟩:=h;exact⟨lR h0 hg hne,lR h1 hg hne,lR h2 hg hne,lR h3 hg hne,lR h4 hg hne,lR h5 hg hne,lR h6 hg hne,lR h7 hg hne,lR h8 hg hne⟩
theorem TkO.grown{b:Nat}{lim mode A B C D coast fr:Int}{row:Option Nat}(h:TkO w b v lim mode A B C D coast fr code)(hg:w.grownBy w' row)(hne:some b≠row):TkO w' b v lim mode A B C D coast fr code:=⟨h.1.grown hg hne,lR h.2 hg hne⟩
theorem tM(w:World)(B:Nat)(h:B≤w.heap.size):(w.alloc (.cells #[] 74)).ownsRow B 74 4 (.slice (some ⟨w.heap.size,0,none⟩) 0 0) 0 []:=
 ⟨rfl,.inr ⟨_,0,#[],rfl,h,Array.getElem?_push_size,Nat.le_refl _,Nat.zero_le _,rfl,rfl⟩⟩
theorem mf{L:List St}{u:Value}(h:u∈dR L):u.oneCell'=true:=by
 unfold dR at h;rw[List.mem_flatMap]at h;obtain⟨s,_,hs⟩:=h;simp[stC]at hs;rcases hs with rfl | rfl | rfl | rfl<;>rfl
variable {cap:Nat} {w w':World}
theorem pv{b o:Nat}{L:List St}(h:aZ w (some ⟨b,o,none⟩) L L.length)(j:Nat)(u:Value)(hj:(dR L)[j]? = some u):w.cell? ((⟨b,o,none⟩:Addr).add j)=some u:=by
 have hlt:j<L.length*4:=by
  have:=(List.getElem?_eq_some_iff.1 hj).1;rw[iC]at this;exact this
 have hA:(⟨b,o,none⟩:Addr).add j=⟨b,o+j,none⟩:=by unfold Addr.add;split<;>simp_all
 rw[hA];rcases h with h | ⟨b',o',e,_,hc⟩
 ·omega
 ·simp only[Option.some.injEq,Addr.mk.injEq,and_true]at e;obtain⟨rfl,rfl⟩:=e;obtain⟨e0,e1,e2,e3⟩:=ou L (j / 4) (by omega);obtain⟨c0,c1,c2,c3⟩:=hc (j / 4) (by omega);have h4:j=j / 4*4∨j=j / 4*4+1∨j=j / 4*4+2∨j=j / 4*4+3:=by omega
  rcases h4 with h4 | h4 | h4 | h4
  ·rw[h4,e0]at hj;rw[h4,c0];exact hj
  ·rw[h4,e1]at hj;rw[h4,←Nat.add_assoc,c1];exact hj
  ·rw[h4,e2]at hj;rw[h4,←Nat.add_assoc,c2];exact hj
  ·rw[h4,e3]at hj;rw[h4,←Nat.add_assoc,c3];exact hj
def aC(w:World)(B:Nat)(L:List St)(a:Option Addr)(cap:Nat):Prop:=w.ownsRow B 74 4 (.slice a L.length cap) L.length (dR L)
theorem aC.stars{B:Nat}{L:List St}{a:Option Addr}(h:aC w B L a cap):aZ w a L L.length:=by
 obtain⟨a',c',e,_,_,hs⟩:=oL h;injection e with e1 e2 e3;subst e1;exact hs
theorem aC.row{B:Nat}{L:List St}{a:Option Addr}(h:aC w B L a cap):∃row,vV w a L.length row∧∀g,row=some g→B≤g:=Fa h rfl
theorem aC.capMax{B:Nat}{L:List St}{a:Option Addr}(h:aC w B L a cap):L.length≤cap∧cap≤maxLen:=by
 obtain⟨a',c',e,h1,h2,_⟩:=oL h;injection e with e1 e2 e3;subst e3;exact⟨h1,h2⟩
theorem aC.kept{B:Nat}{L:List St}{a:Option Addr}(h:aC w B L a cap)(hB:Below w.heap.size w w'):aC w' B L a cap:=by
 obtain⟨h1,h2⟩:=h;refine⟨h1,?_⟩;rcases h2 with h2 | ⟨g,c',cur,e,hg,hh,r⟩
 ·exact .inl h2
 ·exact .inr ⟨g,c',cur,e,hg,by rw[hB.block g (Array.getElem?_eq_some_iff.1 hh).1];exact hh,r⟩
theorem aC.low{B B':Nat}{L:List St}{a:Option Addr}(h:aC w B L a cap)(hb:B'≤B):aC w B' L a cap:=by
 obtain⟨h1,h2⟩:=h;refine⟨h1,?_⟩;rcases h2 with h2 | ⟨g,c',cur,e,hg,r⟩
 ·exact .inl h2
 ·exact .inr ⟨g,c',cur,e,by omega,r⟩
theorem kE{B:Nat}{L:List St}{v:Value}(h:w.ownsRow B 74 4 v L.length (dR L)):∃a cap,v=.slice a L.length cap∧aC w B L a cap:=by
 obtain⟨a,cap,e,_⟩:=oL h;exact⟨a,cap,e,by unfold aC;rw[←e];exact h⟩
theorem gk.grown{b:Nat}{row:Option Nat}(h:gk w b)(hb:b<w.heap.size)(hg:w.grownBy w' row)(hne:some b≠row):gk w' b:=fun i=>by
 have h1:=h i;unfold World.frozen? at h1 ⊢;rw[hg.block b hb hne];exact h1
theorem aC.far{B:Nat}{L:List St}{a:Option Addr}(h:aC w B L a cap){b:Nat}(hne:b<B)(o:Nat)(x:Value):aC (w.setCell ⟨b,o,none⟩ x) B L a cap:=by
 obtain⟨h1,h2⟩:=h;refine⟨h1,?_⟩;rcases h2 with h2 | ⟨g,c',cur,e,hg,hh,r⟩
 ·exact .inl h2
 ·exact .inr ⟨g,c',cur,e,hg,by rw[Below.heap_setCell w ⟨b,o,none⟩ x g (by show g≠b;omega)];exact hh,r⟩
end
section
open Go.RowKit Go.Sort
variable {ao:Option Addr} {P:Program} {w:World}
theorem pI(w:World)(t ty e:TypeId)(i:TypeInfo)(ht:P.underlying t=some (.slice e))(hi:P.info? e=some i)(a:Option Addr)(n cap c:Nat)(hc:n≤cap):
  (Builtin.append_ #[t,t] ty #[.slice a n cap,.slice none 0 c]).run P w=.ok (.slice a n cap) w:=by
 cases a<;>simp[Builtin.append_,run_underlying ht,sizeOf,typeInfo,hi,Builtin.lenOf,Builtin.firstCells,loadCells,storeCells,hc]
theorem Gc{B n m:Nat}{t:TypeId}{v:Value}{xs:List Value}(h:w.ownsRow B t m v n xs):∃a cap,v=.slice a n cap∧n≤cap:=by
 rcases h.2 with ⟨h1,h0⟩ | ⟨g,c',cur,e,_,_,h3,_⟩
 ·exact⟨none,0,by rw[h1,h0],by omega⟩
 ·exact⟨_,_,e,h3⟩
theorem le(w:World){o:Oper}{a:Act}{K:Act→World→Prop}{Q:Exit→Act→World→Prop}(s x:Operand)(t:TypeId)
  (ho:o.op=.call { callee:=.builtin .append,args:=#[s,x],argTypes:=#[t,t] })
  (base:Nat) (e:TypeId) (i:TypeInfo) (z:Value) (size bytes:Nat) (ht:P.underlying t=some (.slice e)) (hi:P.info? e=some i) (hz:i.zero=some z)
  (hsize:i.size=size) (hby:i.bytes=bytes) (hzs:z.cells.size=size) (hsz:0<size)
  (v:Value) (n:Nat) (xs:List Value) (hs:a.eval s=v) (hown:w.ownsRow base e size v n xs)
  (ao:Option Addr) (m c:Nat) (news:List Value) (hx:a.eval x=.slice ao m c) (hl:news.length=m*size) (h0:ao=none→m=0) (hnews:∀ad,ao=some ad→∀j u,news[j]? = some u→w.cell? (ad.add j)=some u) (h1:∀u∈news,u.oneCell'=true)
  (h63:n+m≤maxLen) (hbytes:(n+m)*bytes≤140737488355328) (hbase:base≤w.heap.size)
  (h:∀v' w',w'.ownsRow base e size v' (n+m) (xs ++ news)→w.grownBy w' v.ownBlock→K (a.put o.dst v') w'):o.wp P a w K Q:=by
 cases ao with
 | some ad=>exact wp_append_own w s x t ho base e i z size bytes ht hi hz hsize hby hzs hsz v n xs hs hown ad m c news hx hl (hnews ad rfl) h1 h63 hbytes hbase fun v' w' h2 h3 _=>h v' w' h2 h3
 | none=>
  obtain rfl:=h0 rfl;obtain rfl:news=[]:=List.eq_nil_of_length_eq_zero (by rw[hl];omega);obtain⟨a',cap,rfl,hc⟩:=Gc hown;have hr:=pI (P:=P) w t o.type e i ht hi a' n cap c hc;unfold Oper.wp execOp;simp only[ho,resolve,invoke,builtin,Sem.run_bind,Sem.run_pure,Result.andThen_ok,List.map_toArray,List.map_cons,List.map_nil,hs,hx,hr];exact h _ _ (by rw[List.append_nil];exact hown) ⟨rfl,rfl,rfl,Nat.le_refl _,fun _ _ _=>rfl⟩
theorem mJ{ops:Array Oper}{rest:List Oper}(w:World){o:Oper}{a:Act}{Q:Exit→Act→World→Prop}(hgd:o.guard=none)(s x:Operand)(t:TypeId)
  (ho:o.op=.call { callee:=.builtin .append,args:=#[s,x],argTypes:=#[t,t] })
  (base:Nat) (e:TypeId) (i:TypeInfo) (z:Value) (size bytes:Nat) (ht:P.underlying t=some (.slice e)) (hi:P.info? e=some i) (hz:i.zero=some z)
  (hsize:i.size=size) (hby:i.bytes=bytes) (hzs:z.cells.size=size) (hsz:0<size)
  (v:Value) (n:Nat) (xs:List Value) (hs:a.eval s=v) (hown:w.ownsRow base e size v n xs)
  (ao:Option Addr) (m c:Nat) (news:List Value) (hx:a.eval x=.slice ao m c) (hl:news.length=m*size) (h0:ao=none→m=0) (hnews:∀ad,ao=some ad→∀j u,news[j]? = some u→w.cell? (ad.add j)=some u) (h1:∀u∈news,u.oneCell'=true)
  (h63:n+m≤maxLen) (hbytes:(n+m)*bytes≤140737488355328) (hbase:base≤w.heap.size)
  (h:∀v' w',w'.ownsRow base e size v' (n+m) (xs ++ news)→w.grownBy w' v.ownBlock→wpList P ops Q rest (a.put o.dst v') w'):wpList P ops Q (o :: rest) a w:=
 wpList_plain hgd fun _ hK=>le w s x t ho base e i z size bytes ht hi hz hsize hby hzs hsz v n xs hs hown ao m c news hx hl h0 hnews h1 h63 hbytes hbase fun v' w' h2 h3=>hK _ _ (h v' w' h2 h3)
theorem nR{L:List St}(h:aZ w ao L L.length)(ad:Addr)(he:ao=some ad)(j:Nat)(u:Value)(hj:(dR L)[j]? = some u):w.cell? (ad.add j)=some u:=by
 subst he;rcases h with h0 | ⟨b,o,e,hb,hc⟩
 ·have:=(List.getElem?_eq_some_iff.1 hj).1;rw[iC]at this;omega
 ·cases e;exact pv (.inr ⟨b,o,rfl,hb,hc⟩) j u hj
theorem rQ{L:List St}(h:aZ w ao L L.length)(he:ao=none):L.length=0:=by
 subst he;rcases h with h0 | ⟨b,o,e,hb,hc⟩
 ·exact h0
 ·cases e
end
section
open Go.Value renaming int → J
open Go.IntKind renaming i64 → Z
open Go.RowKit Go.Sort
theorem DL(T:Array Value)(X:World)(b:Nat)(v:Value)(lim mode A B C D coast fr:Int)(hT:T.getD 2 undef=.pointer (some ⟨b,0,none⟩))(h:eu X b v lim mode A B C D coast fr):(results Tryz.f59 T).run Tryz.prog X=.ok (.agg #[v,J Z lim,J Z mode,J Z A,J Z B,J Z C,J Z D,J Z coast,J Z fr]) X:=by
 obtain⟨h0,h1,h2,h3,h4,h5,h6,h7,h8⟩:=h;simp only[Array.getD_eq_getD_getElem?]at hT;simp[results,Tryz.results59,go_sem,hT,h0,h1,h2,h3,h4,h5,h6,h7,h8]
theorem zo(T:Array Value)(X:World)(b:Nat)(v:Value)(lim mode A B C D coast fr:Int)(hT:T.getD 2 undef=.pointer (some ⟨b,0,none⟩))(h:eu X b v lim mode A B C D coast fr):(results Tryz.f68 T).run Tryz.prog X=.ok (.agg #[v,J Z lim,J Z mode,J Z A,J Z B,J Z C,J Z D,J Z coast,J Z fr]) X:=by
 obtain⟨h0,h1,h2,h3,h4,h5,h6,h7,h8⟩:=h;simp only[Array.getD_eq_getD_getElem?]at hT;simp[results,Tryz.results68,go_sem,hT,h0,h1,h2,h3,h4,h5,h6,h7,h8]
theorem bJ{w:World}{b:Nat}{u:Value}{lim0 mode0 A0 B0 C0 D0 coast0 fr0 code0:Int}(h:TkO w b u lim0 mode0 A0 B0 C0 D0 coast0 fr0 code0)(v:Value)(lim mode A B C D coast fr code:Int):TkO ((((((((((w.setCell ⟨b,0,none⟩ v).setCell ⟨b,1,none⟩ (J Z lim)).setCell ⟨b,2,none⟩ (J Z mode)).setCell ⟨b,3,none⟩ (J Z A)).setCell ⟨b,4,none⟩ (J Z B)).setCell ⟨b,5,none⟩ (J Z C)).setCell ⟨b,6,none⟩ (J Z D)).setCell ⟨b,7,none⟩ (J Z coast)).setCell ⟨b,8,none⟩ (J Z fr)).setCell ⟨b,9,none⟩ (J Z code)) b v lim mode A B C D coast fr code:=by
 obtain⟨⟨h0,h1,h2,h3,h4,h5,h6,h7,h8⟩,h9⟩:=h;refine⟨⟨?_,?_,?_,?_,?_,?_,?_,?_,?_⟩,?_⟩<;>simp[go_sem,h0,h1,h2,h3,h4,h5,h6,h7,h8,h9]
theorem kS(L:List St)(lim mode A B C D coast fr:Int)(ad:Option Addr)(c:Nat)(w:World)(hn:L.length≤1048576)(hS:aZ w ad L L.length):
  Calls Tryz.prog 59 #[.agg #[.slice ad L.length c,J Z lim,J Z mode,J Z A,J Z B,J Z C,J Z D,J Z coast,J Z fr]] w fun e w'=>∃a cap,e=.returned (.agg #[.slice a L.length cap,J Z lim,J Z mode,J Z A,J Z B,J Z C,J Z D,J Z coast,J Z fr])∧aC w' (w.heap.size+2) L a cap∧Below w.heap.size w w':=by
 have B0:=eC w (.cells #[.slice ad L.length c,J Z lim,J Z mode,J Z A,J Z B,J Z C,J Z D,J Z coast,J Z fr] 45) (.cells #[.slice none 0 0,J Z 0,J Z 0,J Z 0,J Z 0,J Z 0,J Z 0,J Z 0,J Z 0] 45) (.cells #[] 74);have S1:=yz (hS.kept B0);have S0:=((dY w (.slice ad L.length c) lim mode A B C D coast fr 45).kept (an _ (.cells #[.slice none 0 0,J Z 0,J Z 0,J Z 0,J Z 0,J Z 0,J Z 0,J Z 0,J Z 0] 45))).kept (an _ (.cells #[] 74));have R0:=(by simpa using dY (w.alloc (.cells #[.slice ad L.length c,J Z lim,J Z mode,J Z A,J Z B,J Z C,J Z D,J Z coast,J Z fr] 45)) (.slice none 0 0) 0 0 0 0 0 0 0 0 45:eu ((w.alloc (.cells #[.slice ad L.length c,J Z lim,J Z mode,J Z A,J Z B,J Z C,J Z D,J Z coast,J Z fr] 45)).alloc (.cells #[.slice none 0 0,J Z 0,J Z 0,J Z 0,J Z 0,J Z 0,J Z 0,J Z 0,J Z 0] 45)) (w.heap.size+1) (.slice none 0 0) 0 0 0 0 0 0 0 0).kept (an _ (.cells #[] 74));have F0:=((dS w #[.slice ad L.length c,J Z lim,J Z mode,J Z A,J Z B,J Z C,J Z D,J Z coast,J Z fr] 45).kept (by simp) (an _ (.cells #[.slice none 0 0,J Z 0,J Z 0,J Z 0,J Z 0,J Z 0,J Z 0,J Z 0,J Z 0] 45))).kept (by simp;omega) (an _ (.cells #[] 74));have G0:=(by simpa using dS (w.alloc (.cells #[.slice ad L.length c,J Z lim,J Z mode,J Z A,J Z B,J Z C,J Z D,J Z coast,J Z fr] 45)) #[.slice none 0 0,J Z 0,J Z 0,J Z 0,J Z 0,J Z 0,J Z 0,J Z 0,J Z 0] 45:gk ((w.alloc (.cells #[.slice ad L.length c,J Z lim,J Z mode,J Z A,J Z B,J Z C,J Z D,J Z coast,J Z fr] 45)).alloc (.cells #[.slice none 0 0,J Z 0,J Z 0,J Z 0,J Z 0,J Z 0,J Z 0,J Z 0,J Z 0] 45)) (w.heap.size+1)).kept (by simp) (an _ (.cells #[] 74));have N0:=(by simpa using tM ((w.alloc (.cells #[.slice ad L.length c,J Z lim,J Z mode,J Z A,J Z B,J Z C,J Z D,J Z coast,J Z fr] 45)).alloc (.cells #[.slice none 0 0,J Z 0,J Z 0,J Z 0,J Z 0,J Z 0,J Z 0,J Z 0,J Z 0] 45)) (w.heap.size+2) (by simp):(((w.alloc (.cells #[.slice ad L.length c,J Z lim,J Z mode,J Z A,J Z B,J Z C,J Z D,J Z coast,J Z fr] 45)).alloc (.cells #[.slice none 0 0,J Z 0,J Z 0,J Z 0,J Z 0,J Z 0,J Z 0,J Z 0,J Z 0] 45)).alloc (.cells #[] 74)).ownsRow (w.heap.size+2) 74 4 (.slice (some ⟨w.heap.size+1+1,0,none⟩) 0 0) 0 [])
 have HB:=yz B0;have HS:=yz S0;have HR:=yz R0;have HF:=yz F0;have HG:=yz G0;have HN:=yz N0;clear B0 S0 R0 F0 G0 N0 hS;obtain⟨i0,hinf,hz0,hz1,hz2⟩:=info_parts oB;go_enter Tryz.func59,Tryz.ntmps59;go_wp2_with (at_builtin;refine mJ _ rfl _ _ 41 rfl (w.heap.size+2) 74 i0 (.agg #[J Z 0,J Z 0,J Z 0,J Z 0]) 4 32 Tryz.underlying41 hinf hz0 hz1 hz2 rfl (by decide) _ _ _ rfl (yy HN) ad L.length c (dR L) rfl (iC L) (rQ (yy S1)) (nR (yy S1)) (fun u hu=>mf hu) ?d1 ?d2 ?d3 ?_)
 case d1=>
  have:1048576≤maxLen:=by decide +kernel
  omega
 case d2=>omega
 case d3=>simp
 intro v' w1 ho hg;obtain⟨a,cap,rfl,hC⟩:=kE ho;have B1:=yz (oi (yy HB) hg (yy HB).size (fun g e=>by simp[Value.ownBlock]at e;omega));have S2:=(yy HS).grown hg (by simp[Value.ownBlock];omega);have R2:=yz ((yy HR).grown hg (by simp[Value.ownBlock]));have F2:=yz ((yy HF).grown (yy HS).lt hg (by simp[Value.ownBlock];omega));have G2:=yz ((yy HG).grown (yy HR).lt hg (by simp[Value.ownBlock]));have C1:=yz hC;clear ho hg hC HB HS HR HF HG HN S1;obtain⟨s0,s1,s2,s3,s4,s5,s6,s7,s8⟩:=S2;have S2':Hid (eu w1 w.heap.size (.slice ad L.length c) lim mode A B C D coast fr):=yz ⟨s0,s1,s2,s3,s4,s5,s6,s7,s8⟩;obtain⟨r0,r1,r2,r3,r4,r5,r6,r7,r8⟩:=yy R2;have f0:=yy F2 0;have g0:=yy G2 0;have g1:=yy G2 1;have g2:=yy G2 2;have g3:=yy G2 3;have g4:=yy G2 4;have g5:=yy G2 5;have g6:=yy G2 6;have g7:=yy G2 7;have g8:=yy G2 8;go_wp2_with fail;clear s0 s1 s2 s3 s4 s5 s6 s7 s8 r0 r1 r2 r3 r4 r5 r6 r7 r8 f0 g0 g1 g2 g3 g4 g5 g6 g7 g8;refine bodyPost_ret (v:=.agg #[.slice a L.length cap,J Z lim,J Z mode,J Z A,J Z B,J Z C,J Z D,J Z coast,J Z fr]) ?_ rfl ⟨a,cap,rfl,?_,?_⟩
 ·refine DL _ _ (w.heap.size+1) _ lim mode A B C D coast fr rfl ?_;refine eo (lim0:=0) (mode0:=0) (A0:=0) (B0:=0) (C0:=0) (D0:=0) (coast0:=0) (fr0:=0) (u:=.slice none 0 0) ?_ _ lim mode A B C D coast fr;exact eu.far (yy R2) (show w.heap.size+1≠w.heap.size by omega) _ _
 ·iterate 9 (refine aC.far ?_ (show w.heap.size+1<w.heap.size+2 by omega) _ _)
  exact aC.far (yy C1) (show w.heap.size<w.heap.size+2 by omega) _ _
 ·iterate 9 (refine aG ?_ (show w.heap.size≤w.heap.size+1 by omega) _ _)
  exact aG (yy B1) (Nat.le_refl _) _ _
theorem jc(lim mode A B C D coast fr:Int)(a:Option Addr)(n c:Nat)(w:World):
  Calls Tryz.prog 58 #[.agg #[.slice a n c,J Z lim,J Z mode,J Z A,J Z B,J Z C,J Z D,J Z coast,J Z fr]] w fun e w'=>e=.returned (.agg #[.slice a n c,J Z lim,J Z 0,J Z 0,J Z 0,J Z 0,J Z 0,J Z 0,J Z fr])∧Below w.heap.size w w':=by
 go_enter Tryz.func58,Tryz.ntmps58;go_wp2;exact bodyPost_ret (v:=.agg #[.slice a n c,J Z lim,J Z 0,J Z 0,J Z 0,J Z 0,J Z 0,J Z 0,J Z fr]) (by simp[results,Tryz.results58,go_sem]) rfl ⟨rfl,aX _ _ _⟩
theorem dZ(code:Int)(w:World):
  Calls Tryz.prog 27 #[J Z code] w fun e w'=>e=.returned (.agg #[.slice none 0 0,J Z 0,J Z 0,J Z 0,J Z 0,J Z 0,J Z 0,J Z 0,J Z 0,J Z code])∧Below w.heap.size w w':=by
 go_enter Tryz.func27,Tryz.ntmps27;go_wp2;exact bodyPost_ret (v:=.agg #[.slice none 0 0,J Z 0,J Z 0,J Z 0,J Z 0,J Z 0,J Z 0,J Z 0,J Z 0,J Z code]) (by simp[results,Tryz.results27,go_sem]) rfl ⟨rfl,an _ _⟩
theorem lM(lim mode A B C D coast fr:Int)(a:Option Addr)(n c:Nat)(w:World):
  Calls Tryz.prog 154 #[.agg #[.slice a n c,J Z lim,J Z mode,J Z A,J Z B,J Z C,J Z D,J Z coast,J Z fr]] w fun e w'=>e=.returned (.agg #[.slice a n c,J Z lim,J Z 0,J Z 0,J Z 0,J Z 0,J Z 0,J Z 0,J Z fr])∧Below w.heap.size w w':=by
 go_enter Tryz.func154,Tryz.ntmps154;go_wp2;exact bodyPost_ret (v:=.agg #[.slice a n c,J Z lim,J Z 0,J Z 0,J Z 0,J Z 0,J Z 0,J Z 0,J Z fr]) (by simp[results,Tryz.results154,go_sem]) rfl ⟨rfl,aX _ _ _⟩
theorem nY(lim mode A B C D coast fr:Int)(a:Option Addr)(n c:Nat)(w:World):
  Calls Tryz.prog 69 #[.agg #[.slice a n c,J Z lim,J Z mode,J Z A,J Z B,J Z C,J Z D,J Z coast,J Z fr]] w fun e w'=>e=.returned (.agg #[.slice a n c,J Z lim,J Z mode,J Z A,J Z B,J Z C,J Z D,J Z coast,J Z fr,J Z 0])∧Below w.heap.size w w':=by
 go_enter Tryz.func69,Tryz.ntmps69;go_wp2;exact bodyPost_ret (v:=.agg #[.slice a n c,J Z lim,J Z mode,J Z A,J Z B,J Z C,J Z D,J Z coast,J Z fr,J Z 0]) (by simp[results,Tryz.results69,go_sem]) rfl ⟨rfl,aX _ _ _⟩
end
section
open Go.Value renaming int → J
open Go.IntKind renaming i64 → Y
open Go.RowKit Go.Sort
theorem ja(n lo hi:Int)(w:World):
  Calls Tryz.prog 29 #[J Y n,J Y lo,J Y hi] w fun e w'=>e=.returned (.bool (dX lo hi n))∧w'=w:=eh n lo hi w
theorem wU(n:Int)(w:World):
  Calls Tryz.prog 78 #[J Y n] w fun e w'=>e=.returned (.bool (dX 0 1000000 n))∧w'=w:=by
 go_enter Tryz.func78,Tryz.ntmps78;go_wp2_with fail;refine(ja n 0 1000000 _).mono ?_;rintro e w1 ⟨rfl,hw⟩;rw[hw];go_wp2_with fail;go_ret;exact⟨rfl,rfl⟩
theorem jn(L:List St)(lim mode A B C D coast fr:Int)(a:Option Addr)(c:Nat)(w:World)(hn:L.length≤1048576)(hS:aZ w a L L.length):
  Calls Tryz.prog 57 #[.agg #[.slice a L.length c,J Y lim,J Y mode,J Y A,J Y B,J Y C,J Y D,J Y coast,J Y fr]] w fun e w'=>e=.returned (.bool (aH ⟨L,lim,mode,A,B,C,D,coast,fr⟩))∧Below w.heap.size w w':=by
 have B0:=an w (.cells #[.slice a L.length c,J Y lim,J Y mode,J Y A,J Y B,J Y C,J Y D,J Y coast,J Y fr] 45);have T0:=dY w (.slice a L.length c) lim mode A B C D coast fr 45;have cS:=yz (jh L a c _ hn (hS.kept B0));have HB0:=yz B0;have HT0:=yz T0;clear B0 T0 hS hn;go_enter Tryz.func57,Tryz.ntmps57;go_wp2_with fail;refine(yy cS).mono ?_;rintro e w1 ⟨rfl,hx⟩;have T1:=ap HT0 hx;have B1:=ax HB0 hx;clear hx cS HT0 HB0;obtain⟨c0,c1,c2,c3,c4,c5,c6,c7,c8⟩:=yy T1;have hlt:=(yy T1).lt;cases hk:bc L
 ·have HO:=yz (lH (t:=⟨L,lim,mode,A,B,C,D,coast,fr⟩) hk);go_wp2_with fail;go_ret;exact⟨by rw[yy HO];rfl,yy B1⟩
 go_wp2_with fail;refine(ja lim 1 5 _).mono ?_;rintro e w2 ⟨rfl,hw⟩;rw[hw];clear hw w2;cases hl:dX 1 5 lim
 ·have HO:=yz (lI (t:=⟨L,lim,mode,A,B,C,D,coast,fr⟩) hl);go_wp2_with fail;go_ret;exact⟨by rw[yy HO];rfl,yy B1⟩
 go_wp2_with fail;refine(wU fr _).mono ?_;rintro e w2 ⟨rfl,hw⟩;rw[hw];clear hw w2;cases hf:dX 0 1000000 fr
 ·have HO:=yz (lJ (t:=⟨L,lim,mode,A,B,C,D,coast,fr⟩) hf);go_wp2_with fail;go_ret;exact⟨by rw[yy HO];rfl,yy B1⟩
 have HH:=yz (mG (t:=⟨L,lim,mode,A,B,C,D,coast,fr⟩) hk hl hf);clear hk hl hf;have Z:=((yy B1).alloc (yy B1).size (.cells #[J Y 0,J Y 0,J Y 0,J Y 0] 43))
 have T2:=yz ((yy T1).kept (an w1 (.cells #[J Y 0,J Y 0,J Y 0,J Y 0] 43)));by_cases m0:mode=0
 ·have HO:Hid (aH ⟨L,lim,mode,A,B,C,D,coast,fr⟩=(eqT A B C D 0 0 0 0&&decide (coast=0))):=yz (by rw[yy HH,zf m0]);have hq:=fun W=>na A B C D 0 0 0 0 W;cases hz:eqT A B C D 0 0 0 0
  ·rw[hz]at HO hq;go_wp2_with fail;go_ret;exact⟨by rw[yy HO];rfl,Z⟩
  ·rw[hz]at HO hq;go_wp2_with fail;go_ret;exact⟨by rw[yy HO];rfl,Z⟩
 by_cases m1:mode=1
 ·have HO:Hid (aH ⟨L,lim,mode,A,B,C,D,coast,fr⟩=(aD A B C D&&decide (coast=0))):=yz (by rw[yy HH,kU m1]);subst m1;go_wp2_with fail;refine(bu A B C D _).mono ?_;rintro e w2 ⟨rfl,hx⟩;have B2:=yz (ak Z hx);obtain⟨d0,d1,d2,d3,d4,d5,d6,d7,d8⟩:=(yy T2).kept hx;clear hx c0 c1 c2 c3 c4 c5 c6 c7 c8 Z;cases hz:aD A B C D
  ·rw[hz]at HO;go_wp2_with fail;go_ret;exact⟨by rw[yy HO];rfl,yy B2⟩
  ·rw[hz]at HO;go_wp2_with fail;go_ret;exact⟨by rw[yy HO];rfl,yy B2⟩
 by_cases m2:mode=2
 ·have HO:Hid (aH ⟨L,lim,mode,A,B,C,D,coast,fr⟩=(aD A B C D&&dX 1 lim coast)):=yz (by rw[yy HH,ms m2]);subst m2;go_wp2_with fail;refine(bu A B C D _).mono ?_;rintro e w2 ⟨rfl,hx⟩;have B2:=yz (ak Z hx);obtain⟨d0,d1,d2,d3,d4,d5,d6,d7,d8⟩:=(yy T2).kept hx;clear hx c0 c1 c2 c3 c4 c5 c6 c7 c8 Z;cases hz:aD A B C D
  ·rw[hz]at HO;go_wp2_with fail;go_ret;exact⟨by rw[yy HO];rfl,yy B2⟩
  ·rw[hz]at HO;go_wp2_with fail;refine(ja coast 1 lim _).mono ?_;rintro e w3 ⟨rfl,hw⟩;rw[hw];clear hw w3;go_wp2_with fail;go_ret;exact⟨by rw[yy HO];rfl,yy B2⟩
 ·have HO:Hid (aH ⟨L,lim,mode,A,B,C,D,coast,fr⟩=false):=yz (by rw[yy HH,oF m0 m1 m2]);go_wp2_with fail;go_ret;exact⟨by rw[yy HO];rfl,Z⟩
end
section
open Go.Value renaming int → J
open Go.IntKind renaming i64 → Z
open Go.RowKit Go.Sort
theorem rp(T:Array Value)(X:World)(b:Nat)(v:Value)(lim mode A B C D coast fr code:Int)(hT:T.getD 2 undef=.pointer (some ⟨b,0,none⟩))(h:TkO X b v lim mode A B C D coast fr code):(results Tryz.f34 T).run Tryz.prog X=.ok (.agg #[v,J Z lim,J Z mode,J Z A,J Z B,J Z C,J Z D,J Z coast,J Z fr,J Z code]) X:=by
 obtain⟨⟨h0,h1,h2,h3,h4,h5,h6,h7,h8⟩,h9⟩:=h;simp only[Array.getD_eq_getD_getElem?]at hT;simp[results,Tryz.results34,go_sem,hT,h0,h1,h2,h3,h4,h5,h6,h7,h8,h9]
theorem ro(T:Array Value)(X:World)(b:Nat)(v:Value)(lim mode A B C D coast fr code:Int)(hT:T.getD 2 undef=.pointer (some ⟨b,0,none⟩))(h:TkO X b v lim mode A B C D coast fr code):(results Tryz.f121 T).run Tryz.prog X=.ok (.agg #[v,J Z lim,J Z mode,J Z A,J Z B,J Z C,J Z D,J Z coast,J Z fr,J Z code]) X:=by
 obtain⟨⟨h0,h1,h2,h3,h4,h5,h6,h7,h8⟩,h9⟩:=h;simp only[Array.getD_eq_getD_getElem?]at hT;simp[results,Tryz.results121,go_sem,hT,h0,h1,h2,h3,h4,h5,h6,h7,h8,h9]
theorem nH(T:Array Value)(X:World)(b:Nat)(v:Value)(lim mode A B C D coast fr code:Int)(hT:T.getD 4 undef=.pointer (some ⟨b,0,none⟩))(h:TkO X b v lim mode A B C D coast fr code):(results Tryz.f18 T).run Tryz.prog X=.ok (.agg #[v,J Z lim,J Z mode,J Z A,J Z B,J Z C,J Z D,J Z coast,J Z fr,J Z code]) X:=by
 obtain⟨⟨h0,h1,h2,h3,h4,h5,h6,h7,h8⟩,h9⟩:=h;simp only[Array.getD_eq_getD_getElem?]at hT;simp[results,Tryz.results18,go_sem,hT,h0,h1,h2,h3,h4,h5,h6,h7,h8,h9]
theorem xP(T:Array Value)(X:World)(b:Nat)(v:Value)(lim mode A B C D coast fr code:Int)(hT:T.getD 4 undef=.pointer (some ⟨b,0,none⟩))(h:TkO X b v lim mode A B C D coast fr code):(results Tryz.f41 T).run Tryz.prog X=.ok (.agg #[v,J Z lim,J Z mode,J Z A,J Z B,J Z C,J Z D,J Z coast,J Z fr,J Z code]) X:=by
 obtain⟨⟨h0,h1,h2,h3,h4,h5,h6,h7,h8⟩,h9⟩:=h;simp only[Array.getD_eq_getD_getElem?]at hT;simp[results,Tryz.results41,go_sem,hT,h0,h1,h2,h3,h4,h5,h6,h7,h8,h9]
def pA(w':World)(B:Nat)(t:Tk)(code:Int)(e:Ending):Prop:=∃a cap,e=.returned (.agg #[.slice a t.L.length cap,J Z t.lim,J Z t.mode,J Z t.A,J Z t.B,J Z t.C,J Z t.D,J Z t.coast,J Z t.fr,J Z code])∧aC w' B t.L a cap
theorem yw(w:World)(B:Nat):aC w B [] none 0:=⟨rfl,.inl ⟨rfl,rfl⟩⟩
theorem ce(w:World)(B:Nat)(code:Int):pA w B fO code (.returned (.agg #[.slice none 0 0,J Z 0,J Z 0,J Z 0,J Z 0,J Z 0,J Z 0,J Z 0,J Z 0,J Z code])):=⟨none,0,rfl,yw w B⟩
def eF(t:Tk):Tk:=if aH t=true then qY t else fO
def gK(t:Tk):Int:=if aH t=true then 0 else 1
variable {code:Int} {v:Value} {w:World}
theorem TkO.far{b:Nat}{lim mode A B C D coast fr:Int}(h:TkO w b v lim mode A B C D coast fr code){b':Nat}(hne:b≠b')(o:Nat)(x:Value):TkO (w.setCell ⟨b',o,none⟩ x) b v lim mode A B C D coast fr code:=⟨h.1.far hne o x,by rw[World.cell?_setCell_far _ _ _ _ (Ne.symm hne)];exact h.2⟩
theorem TkO.lt{b:Nat}{lim mode A B C D coast fr:Int}(h:TkO w b v lim mode A B C D coast fr code):b<w.heap.size:=h.1.lt
theorem sG(L:List St)(lim mode A B C D coast fr:Int)(ad:Option Addr)(c:Nat)(w:World)(hn:L.length≤1048576)(hS:aZ w ad L L.length):
  Calls Tryz.prog 34 #[.agg #[.slice ad L.length c,J Z lim,J Z mode,J Z A,J Z B,J Z C,J Z D,J Z coast,J Z fr]] w fun e w'=>pA w' w.heap.size (eF ⟨L,lim,mode,A,B,C,D,coast,fr⟩) (gK ⟨L,lim,mode,A,B,C,D,coast,fr⟩) e∧Below w.heap.size w w':=by
 have B0:=aX w (.cells #[.slice ad L.length c,J Z lim,J Z mode,J Z A,J Z B,J Z C,J Z D,J Z coast,J Z fr] 45) (.cells #[.slice none 0 0,J Z 0,J Z 0,J Z 0,J Z 0,J Z 0,J Z 0,J Z 0,J Z 0,J Z 0] 47);have T0:=(dY w (.slice ad L.length c) lim mode A B C D coast fr 45).kept (an _ (.cells #[.slice none 0 0,J Z 0,J Z 0,J Z 0,J Z 0,J Z 0,J Z 0,J Z 0,J Z 0,J Z 0] 47));have R0:=(by simpa using lG (w.alloc (.cells #[.slice ad L.length c,J Z lim,J Z mode,J Z A,J Z B,J Z C,J Z D,J Z coast,J Z fr] 45)) (.slice none 0 0) 0 0 0 0 0 0 0 0 0 47:TkO ((w.alloc (.cells #[.slice ad L.length c,J Z lim,J Z mode,J Z A,J Z B,J Z C,J Z D,J Z coast,J Z fr] 45)).alloc (.cells #[.slice none 0 0,J Z 0,J Z 0,J Z 0,J Z 0,J Z 0,J Z 0,J Z 0,J Z 0,J Z 0] 47)) (w.heap.size+1) (.slice none 0 0) 0 0 0 0 0 0 0 0 0)
 have G0:=(by simpa using dS (w.alloc (.cells #[.slice ad L.length c,J Z lim,J Z mode,J Z A,J Z B,J Z C,J Z D,J Z coast,J Z fr] 45)) #[.slice none 0 0,J Z 0,J Z 0,J Z 0,J Z 0,J Z 0,J Z 0,J Z 0,J Z 0,J Z 0] 47:gk ((w.alloc (.cells #[.slice ad L.length c,J Z lim,J Z mode,J Z A,J Z B,J Z C,J Z D,J Z coast,J Z fr] 45)).alloc (.cells #[.slice none 0 0,J Z 0,J Z 0,J Z 0,J Z 0,J Z 0,J Z 0,J Z 0,J Z 0,J Z 0] 47)) (w.heap.size+1))
 have hsz:w.heap.size+2≤((w.alloc (.cells #[.slice ad L.length c,J Z lim,J Z mode,J Z A,J Z B,J Z C,J Z D,J Z coast,J Z fr] 45)).alloc (.cells #[.slice none 0 0,J Z 0,J Z 0,J Z 0,J Z 0,J Z 0,J Z 0,J Z 0,J Z 0,J Z 0] 47)).heap.size:=by simp
 have S0:=hS.kept B0;have cR:=yz (fun W h=>jn L lim mode A B C D coast fr ad c W hn h);have cC:=yz (fun W h=>kS L lim mode A B C D coast fr ad c W hn h);have HB:=yz B0;have HT:=yz T0;have HR:=yz R0;have HG:=yz G0;have HS:=yz S0;clear B0 T0 R0 G0 S0 hS;go_enter Tryz.func34,Tryz.ntmps34;go_wp2_with fail;generalize (w.alloc (.cells #[.slice ad L.length c,J Z lim,J Z mode,J Z A,J Z B,J Z C,J Z D,J Z coast,J Z fr] 45)).alloc (.cells #[.slice none 0 0,J Z 0,J Z 0,J Z 0,J Z 0,J Z 0,J Z 0,J Z 0,J Z 0,J Z 0] 47)=W at *;refine(yy cR _ (yy HS)).mono ?_;rintro e w1 ⟨rfl,hx⟩;have B1:=ax HB hx;have T1:=ap HT hx;have R1:=ap HR hx;have G1:=yz ((yy HG).kept (yy HR).lt hx);have S1:=ap HS hx;have hsz1:w.heap.size+2≤w1.heap.size:=Nat.le_trans hsz hx.size;clear hx HB HT HR HG HS hsz cR;cases hk:aH ⟨L,lim,mode,A,B,C,D,coast,fr⟩
 ·have HO1:Hid (eF ⟨L,lim,mode,A,B,C,D,coast,fr⟩=fO):=yz (by unfold eF;rw[hk];rfl);have HO2:Hid (gK ⟨L,lim,mode,A,B,C,D,coast,fr⟩=1):=yz (by unfold gK;rw[hk];rfl);go_wp2_with fail;refine(dZ 1 _).mono ?_;rintro e w2 ⟨rfl,hx⟩;have B2:=ax B1 hx;have R2:=ap R1 hx;have G2:=yz ((yy G1).kept (yy R1).lt hx);clear hx B1 R1 G1;obtain⟨⟨r0,r1,r2,r3,r4,r5,r6,r7,r8⟩,r9⟩:=yy R2;have g0:=yy G2 0;have g1:=yy G2 1;have g2:=yy G2 2;have g3:=yy G2 3;have g4:=yy G2 4;have g5:=yy G2 5;have g6:=yy G2 6;have g7:=yy G2 7;have g8:=yy G2 8;have g9:=yy G2 9;go_wp2_with fail;clear r0 r1 r2 r3 r4 r5 r6 r7 r8 r9 g0 g1 g2 g3 g4 g5 g6 g7 g8 g9;refine bodyPost_ret (v:=.agg #[.slice none 0 0,J Z 0,J Z 0,J Z 0,J Z 0,J Z 0,J Z 0,J Z 0,J Z 0,J Z 1]) ?_ rfl ⟨?_,?_⟩
  ·refine rp _ _ (w.heap.size+1) _ 0 0 0 0 0 0 0 0 1 rfl ?_;exact bJ (yy R2) _ _ _ _ _ _ _ _ _ _
  ·rw[yy HO1,yy HO2];exact ce _ _ _
  ·iterate 10 (refine aG ?_ (show w.heap.size≤w.heap.size+1 by omega) _ _)
   exact yy B2
 ·have HO1:Hid (eF ⟨L,lim,mode,A,B,C,D,coast,fr⟩=⟨L,lim,0,0,0,0,0,0,fr⟩):=yz (by unfold eF;rw[hk];rfl);have HO2:Hid (gK ⟨L,lim,mode,A,B,C,D,coast,fr⟩=0):=yz (by unfold gK;rw[hk];rfl);clear hk;obtain⟨s0,s1,s2,s3,s4,s5,s6,s7,s8⟩:=yy T1;go_wp2_with fail;clear s0 s1 s2 s3 s4 s5 s6 s7 s8;refine(yy cC _ (yy S1)).mono ?_;rintro e w2 ⟨a,cap,rfl,hC,hx⟩;have B2:=ax B1 hx;have R2:=ap R1 hx;have G2:=yz ((yy G1).kept (yy R1).lt hx);have C2:=yz (hC.low (B':=w.heap.size+2) (by omega));clear hx hC B1 R1 G1 T1 S1 cC;go_wp2_with fail;refine(jc lim mode A B C D coast fr a L.length cap _).mono ?_;rintro e w3 ⟨rfl,hx⟩;have B3:=ax B2 hx;have R3:=ap R2 hx;have G3:=yz ((yy G2).kept (yy R2).lt hx);have C3:=ap C2 hx;clear hx B2 R2 G2 C2;obtain⟨⟨r0,r1,r2,r3,r4,r5,r6,r7,r8⟩,r9⟩:=yy R3;have g0:=yy G3 0;have g1:=yy G3 1;have g2:=yy G3 2;have g3:=yy G3 3;have g4:=yy G3 4;have g5:=yy G3 5;have g6:=yy G3 6;have g7:=yy G3 7;have g8:=yy G3 8;have g9:=yy G3 9;go_wp2_with fail;clear r0 r1 r2 r3 r4 r5 r6 r7 r8 r9 g0 g1 g2 g3 g4 g5 g6 g7 g8 g9;refine bodyPost_ret (v:=.agg #[.slice a L.length cap,J Z lim,J Z 0,J Z 0,J Z 0,J Z 0,J Z 0,J Z 0,J Z fr,J Z 0]) ?_ rfl ⟨?_,?_⟩
  ·refine rp _ _ (w.heap.size+1) _ lim 0 0 0 0 0 0 fr 0 rfl ?_;exact bJ (yy R3) _ _ _ _ _ _ _ _ _ _
  ·rw[yy HO1,yy HO2];refine⟨a,cap,rfl,?_⟩;refine aC.low (B:=w.heap.size+2) ?_ (by omega);iterate 10 (refine aC.far ?_ (show w.heap.size+1<w.heap.size+2 by omega) _ _)
   exact yy C3
  ·iterate 10 (refine aG ?_ (show w.heap.size≤w.heap.size+1 by omega) _ _)
   exact yy B3
end
section
open Go.RowKit Go.Sort
def uf(fI:Nat→Int)(fB:Nat→Bool)(j:Nat):Value:=.int .i64 (fI j)
def DO:ByteArray:=⟨#[98,108,105,110,100]⟩
def DP:ByteArray:=⟨#[100,114,105,102,116]⟩
def sIds:ByteArray:=⟨#[105,100,115]⟩
def FC:ByteArray:=⟨#[109,111,118,101]⟩
def DQ:ByteArray:=⟨#[114,101,115,101,116]⟩
def sSee:ByteArray:=⟨#[115,101,101]⟩
def DR:ByteArray:=⟨#[115,116,97,116,101]⟩
def fnV(f:Nat):Value:=.func (.func f) #[] #[]
def fwO:Obj:=.cells #[.string DO,fnV 86,fnV 87,.string DP,fnV 88,fnV 89,.string sIds,fnV 90,fnV 91,.string FC,fnV 88,fnV 92,.string DQ,fnV 86,fnV 93,.string sSee,fnV 90,fnV 94,.string DR,fnV 86,fnV 95] 125
theorem qx(w:World):Calls Tryz.prog 66 #[] w fun e w'=>e=.returned (.slice (some ⟨w.heap.size,0,none⟩) 7 7)∧w'=w.alloc fwO:=by
 go_enter Tryz.func66,Tryz.ntmps66;go_wp2;go_ret;exact⟨rfl,rfl⟩
variable {xs:List Value} {m:Nat} {v:Value} {w:World}
theorem BD{w':World}{B n:Nat}{t:TypeId}(h:w.ownsRow B t m v n xs)(hB:Below w.heap.size w w'):w'.ownsRow B t m v n xs:=by
 obtain⟨h1,h2⟩:=h;refine⟨h1,?_⟩;rcases h2 with h2 | ⟨g,c',cur,e,hg,hh,r⟩
 ·exact .inl h2
 ·exact .inr ⟨g,c',cur,e,hg,by rw[hB.block g (Array.getElem?_eq_some_iff.1 hh).1];exact hh,r⟩
def fwL:List Value:=[.string DO,fnV 86,fnV 87,.string DP,fnV 88,fnV 89,.string sIds,fnV 90,fnV 91,.string FC,fnV 88,fnV 92,.string DQ,fnV 86,fnV 93,.string sSee,fnV 90,fnV 94,.string DR,fnV 86,fnV 95]
def fwF(j:Nat):Value:=fwL.getD j (.string ⟨#[]⟩)
theorem DC{B B' n:Nat}{t:TypeId}(h:w.ownsRow B t m v n xs)(hb:B'≤B):w.ownsRow B' t m v n xs:=by
 obtain⟨h1,h2⟩:=h;refine⟨h1,?_⟩;rcases h2 with h2 | ⟨g,c',cur,e,hg,r⟩
 ·exact .inl h2
 ·exact .inr ⟨g,c',cur,e,by omega,r⟩
theorem Gt(w:World):dz (w.alloc fwO) 125 w.heap.size 21 fwF:=by
 refine⟨fwL.toArray,heap_alloc_new w fwO,fun j hj=>?_⟩;unfold fwF;rw[List.getElem?_toArray,List.getD_eq_getElem?_getD,List.getElem?_eq_getElem (show j<fwL.length from hj)];rfl
end
end Go.Proofs.YtdchjcadhlkpfaaGreatDoor
