/- Several texts in one: TurnR. -/
import Derived.Test.YtdchjcadhlkpfaaGreatDoorD19
import Derived.Test.YtdchjcadhlkpfaaGreatDoorD20
import Derived.Test.YtdchjcadhlkpfaaGreatDoorD8
namespace Go.Proofs.YtdchjcadhlkpfaaGreatDoor
set_option linter.unusedVariables false
set_option linter.unusedSimpArgs false
set_option maxRecDepth 100000
set_option maxHeartbeats 8000000
section
open Go.Value renaming int → J
open Go.IntKind renaming i64 → Z
open Go.RowKit
theorem Aw{a b:ByteArray}(h:a=b):(a.toList==b.toList)=true:=by subst h;simp
theorem Ax{a b:ByteArray}(h:a≠b):(a.toList==b.toList)=false:=by
 rw[ByteArray.toList_eq,ByteArray.toList_eq];simp;intro e;exact h (ByteArray.ext e)
variable {s:ByteArray}
theorem tR(h:8000<s.size):Value.agg #[J Z (en s (aL s).a),J Z (en s (aL s).b),J Z (en s (aL s).c),J Z (en s (aL s).d),J Z (ez s)]=Value.agg #[J Z 0,J Z 0,J Z 0,J Z 0,J Z 2]:=by
 unfold en ez;rw[if_neg (by omega),if_neg (by omega),if_neg (by omega),if_neg (by omega),if_neg (by omega)]
theorem xM(h:s.size≤8000)(hr:gE s=false):Value.agg #[J Z (en s (aL s).a),J Z (en s (aL s).b),J Z (en s (aL s).c),J Z (en s (aL s).d),J Z (ez s)]=Value.agg #[J Z 0,J Z 0,J Z 0,J Z 0,J Z 3]:=by
 unfold en ez;rw[hr,if_neg (by simp),if_neg (by simp),if_neg (by simp),if_neg (by simp),if_pos h];rfl
theorem An(h:s.size≤8000)(hr:gE s=true):Value.agg #[J Z (en s (aL s).a),J Z (en s (aL s).b),J Z (en s (aL s).c),J Z (en s (aL s).d),J Z (ez s)]=Value.agg #[J Z (aL s).a,J Z (aL s).b,J Z (aL s).c,J Z (aL s).d,J Z 0]:=by
 unfold en ez;rw[hr,if_pos ⟨h,rfl⟩,if_pos ⟨h,rfl⟩,if_pos ⟨h,rfl⟩,if_pos ⟨h,rfl⟩,if_pos h];rfl
theorem vM(s:ByteArray)(w:World)(hs:s.size≤9223372036854775807)(ht:Tab w):
  Calls Tryz.prog 111 #[.string s] w fun e w'=>e=.returned (.agg #[J Z (en s (aL s).a),J Z (en s (aL s).b),J Z (en s (aL s).c),J Z (en s (aL s).d),J Z (ez s)])∧Below w.heap.size w w':=by
 have HT:=yz ht;clear ht;by_cases h8:8000<s.size
 ·have HR:=yz (tR h8);go_enter Tryz.func111,Tryz.ntmps111;go_wp2_with fail;exact bodyPost_ret (v:=.agg #[J Z 0,J Z 0,J Z 0,J Z 0,J Z 2]) (by simp[results,Tryz.results111,go_sem]) rfl ⟨by rw[yy HR],an _ _⟩
 ·have h8':s.size≤8000:=by omega
  have h8i:¬(8000:Int)<(s.size:Int):=by omega
  have HB8:=yz h8';have HBad:=yz (fun h=>xM h8' h);have HOk:=yz (fun h=>An h8' h);have HRR:Hid (gE s=(aD (aL s).a (aL s).b (aL s).c (aL s).d&&decide (cy (aL s).a (aL s).b (aL s).c (aL s).d=s))):=yz rfl;have HL:=yz (fun W=>sw s W h8');generalize aL s=t at HBad HOk HRR HL ⊢;generalize t.a=a at HBad HOk HRR HL ⊢;generalize t.b=b at HBad HOk HRR HL ⊢;generalize t.c=c at HBad HOk HRR HL ⊢;generalize t.d=d at HBad HOk HRR HL ⊢;clear h8 h8';go_enter Tryz.func111,Tryz.ntmps111;go_wp2_with fail;refine(yy HL _).mono ?_;rintro e w1 ⟨rfl,hx⟩;have hxs:=(dl w 0 0 0 0 0 108)
  have hfs:=(fZ w 0 0 0 0 0 108)
  have vr:=(hxs.kept hx).alloc (.cells #[J Z a,J Z b,J Z c,J Z d] 43);have fr:=(hfs.kept hxs.lt hx).kept (hxs.kept hx).lt (an w1 (.cells #[J Z a,J Z b,J Z c,J Z d] 43));have vt:=aP w1 a b c d 43;have hB:=(ak (an w _) hx).alloc (ak (an w _) hx).size (.cells #[J Z a,J Z b,J Z c,J Z d] 43);clear hx hxs hfs HL;go_wp2_with fail;refine(bw a b c d _).mono ?_;rintro e w2 ⟨rfl,hx⟩;have hlt:=vr.lt;replace vr:=vr.kept hx;replace fr:=fr.kept hlt hx;replace vt:=vt.kept vt.lt hx;replace hB:=ak hB hx;clear hx hlt;cases hr:aD a b c d
  ·have HF:=yz (yy HBad (by rw[yy HRR,hr];rfl));obtain⟨cr0,cr1,cr2,cr3,cr4⟩:=vr;obtain⟨fr0,fr1,fr2,fr3,fr4⟩:=fr;clear HBad HOk HRR hr;go_wp2_with fail;exact bodyPost_ret (v:=.agg #[J Z 0,J Z 0,J Z 0,J Z 0,J Z 3]) (by simp[results,Tryz.results111,go_sem,cr0,cr1,cr2,cr3,cr4]) rfl ⟨by rw[yy HF],bd hB (Nat.le_refl _) _ _ _ _ _⟩
  ·have vt':=vt;obtain⟨ct0,ct1,ct2,ct3⟩:=vt;go_wp2_with fail;refine(nZ a b c d _ ((yy HT).kept hB)).mono ?_;rintro e w3 ⟨rfl,hx⟩;have hlt:=vr.lt;replace vr:=vr.kept hx;replace fr:=fr.kept hlt hx;have vt:=vt'.kept vt'.lt hx;replace hB:=ak hB hx;clear hx hlt ct0 ct1 ct2 ct3 vt';obtain⟨cr0,cr1,cr2,cr3,cr4⟩:=vr;obtain⟨fr0,fr1,fr2,fr3,fr4⟩:=fr;obtain⟨ct0,ct1,ct2,ct3⟩:=vt;by_cases htx:cy a b c d=s
   ·have HF:=yz (yy HOk (by rw[yy HRR,hr,decide_eq_true htx];rfl));have hne:=Aw htx;clear HBad HOk HRR hr htx;go_wp2_with fail;exact bodyPost_ret (v:=.agg #[J Z a,J Z b,J Z c,J Z d,J Z 0]) (by simp[results,Tryz.results111,go_sem,cr0,cr1,cr2,cr3,cr4]) rfl ⟨by rw[yy HF],bd hB (Nat.le_refl _) _ _ _ _ _⟩
   ·have HF:=yz (yy HBad (by rw[yy HRR,hr,decide_eq_false htx];rfl));have hne:=Ax htx;clear HBad HOk HRR hr htx;go_wp2_with fail;exact bodyPost_ret (v:=.agg #[J Z 0,J Z 0,J Z 0,J Z 0,J Z 3]) (by simp[results,Tryz.results111,go_sem,cr0,cr1,cr2,cr3,cr4]) rfl ⟨by rw[yy HF],bd hB (Nat.le_refl _) _ _ _ _ _⟩
end
end Go.Proofs.YtdchjcadhlkpfaaGreatDoor
