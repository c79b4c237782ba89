/- Several texts in one: TurnR. -/
import Derived.Test.YtdchjcadhlkpfaaGreatDoorQFnTopOwn11
import Derived.Test.YtdchjcadhlkpfaaGreatDoorQFnTopOwn13
import Derived.Test.YtdchjcadhlkpfaaGreatDoorQFnTopOwn17
namespace Go.Proofs.YtdchjcadhlkpfaaGreatDoor
set_option linter.unusedVariables false
set_option linter.unusedSimpArgs false
set_option maxRecDepth 100000
set_option maxHeartbeats 8000000
section
open Go.RowKit
theorem um {a b : ByteArray} (h : a = b) : (a.toList == b.toList) = true := by subst h; simp
theorem vi {a b : ByteArray} (h : a ≠ b) : (a.toList == b.toList) = false := by
 rw [ByteArray.toList_eq, ByteArray.toList_eq]
 simp
 intro e
 exact h (ByteArray.ext e)
theorem sc {s : ByteArray} (h : 8000 < s.size) : Value.agg #[.int .i64 (bS s (aB s).a), .int .i64 (bS s (aB s).b), .int .i64 (bS s (aB s).c), .int .i64 (bS s (aB s).d), .int .i64 (ch s)] = Value.agg #[.int .i64 0, .int .i64 0, .int .i64 0, .int .i64 0, .int .i64 2] := by
 unfold bS ch
 rw [if_neg (by omega), if_neg (by omega), if_neg (by omega), if_neg (by omega), if_neg (by omega)]
theorem tC {s : ByteArray} (h : s.size ≤ 8000) (hr : nT s = false) : Value.agg #[.int .i64 (bS s (aB s).a), .int .i64 (bS s (aB s).b), .int .i64 (bS s (aB s).c), .int .i64 (bS s (aB s).d), .int .i64 (ch s)] = Value.agg #[.int .i64 0, .int .i64 0, .int .i64 0, .int .i64 0, .int .i64 3] := by
 unfold bS ch
 rw [hr, if_neg (by simp), if_neg (by simp), if_neg (by simp), if_neg (by simp), if_pos h]
 rfl
theorem uu {s : ByteArray} (h : s.size ≤ 8000) (hr : nT s = true) : Value.agg #[.int .i64 (bS s (aB s).a), .int .i64 (bS s (aB s).b), .int .i64 (bS s (aB s).c), .int .i64 (bS s (aB s).d), .int .i64 (ch s)] = Value.agg #[.int .i64 (aB s).a, .int .i64 (aB s).b, .int .i64 (aB s).c, .int .i64 (aB s).d, .int .i64 0] := by
 unfold bS ch
 rw [hr, if_pos ⟨h, rfl⟩, if_pos ⟨h, rfl⟩, if_pos ⟨h, rfl⟩, if_pos ⟨h, rfl⟩, if_pos h]
 rfl
theorem mE (s : ByteArray) (w : World) (hs : s.size ≤ 9223372036854775807) (ht : Tab w) :
  Calls Tryz.prog 111 #[.string s] w fun e w' => e = .returned (.agg #[.int .i64 (bS s (aB s).a), .int .i64 (bS s (aB s).b), .int .i64 (bS s (aB s).c), .int .i64 (bS s (aB s).d), .int .i64 (ch s)]) ∧ Below w.heap.size w w' := by
 have HT := yz ht
 clear ht
 by_cases h8 : 8000 < s.size
 ·have HR := yz (sc h8)
  go_enter Tryz.func111, Tryz.ntmps111
  go_wp2_with fail
  exact bodyPost_ret (v := .agg #[.int .i64 0, .int .i64 0, .int .i64 0, .int .i64 0, .int .i64 2]) (by simp [results, Tryz.results111, go_sem]) rfl ⟨by rw [yy HR], an _ _⟩
 ·have h8' : s.size ≤ 8000 := by omega
  have h8i : ¬ (8000 : Int) < (s.size : Int) := by omega
  have HB8 := yz h8'
  have HBad := yz (fun h => tC h8' h)
  have HOk := yz (fun h => uu h8' h)
  have HRR : Hid (nT s = (az (aB s).a (aB s).b (aB s).c (aB s).d && decide (eK (aB s).a (aB s).b (aB s).c (aB s).d = s))) := yz rfl
  have HL := yz (fun W => ll s W h8')
  generalize aB s = t at HBad HOk HRR HL ⊢
  generalize t.a = a at HBad HOk HRR HL ⊢
  generalize t.b = b at HBad HOk HRR HL ⊢
  generalize t.c = c at HBad HOk HRR HL ⊢
  generalize t.d = d at HBad HOk HRR HL ⊢
  clear h8 h8'
  go_enter Tryz.func111, Tryz.ntmps111
  go_wp2_with fail
  refine (yy HL _).mono ?_
  rintro e w1 ⟨rfl, hx⟩
  have hxs := (ge w 0 0 0 0 0 108)
  have hfs := (iH w 0 0 0 0 0 108)
  have vr := (hxs.kept hx).alloc (.cells #[.int .i64 a, .int .i64 b, .int .i64 c, .int .i64 d] 43)
  have fr := (hfs.kept hxs.lt hx).kept (hxs.kept hx).lt (an w1 (.cells #[.int .i64 a, .int .i64 b, .int .i64 c, .int .i64 d] 43))
  have vt := aM w1 a b c d 43
  have hB := (ak (an w _) hx).alloc (ak (an w _) hx).size (.cells #[.int .i64 a, .int .i64 b, .int .i64 c, .int .i64 d] 43)
  clear hx hxs hfs HL
  go_wp2_with fail
  refine (aK a b c d _).mono ?_
  rintro e w2 ⟨rfl, hx⟩
  have hlt := vr.lt
  replace vr := vr.kept hx
  replace fr := fr.kept hlt hx
  replace vt := vt.kept vt.lt hx
  replace hB := ak hB hx
  clear hx hlt
  cases hr : az a b c d
  ·have HF := yz (yy HBad (by rw [yy HRR, hr]; rfl))
   obtain ⟨cr0, cr1, cr2, cr3, cr4⟩ := vr
   obtain ⟨fr0, fr1, fr2, fr3, fr4⟩ := fr
   clear HBad HOk HRR hr
   go_wp2_with fail
   exact bodyPost_ret (v := .agg #[.int .i64 0, .int .i64 0, .int .i64 0, .int .i64 0, .int .i64 3]) (by simp [results, Tryz.results111, go_sem, cr0, cr1, cr2, cr3, cr4]) rfl ⟨by rw [yy HF], bD hB (Nat.le_refl _) _ _ _ _ _⟩
  ·have vt' := vt
   obtain ⟨ct0, ct1, ct2, ct3⟩ := vt
   go_wp2_with fail
   refine (gV a b c d _ ((yy HT).kept hB)).mono ?_
   rintro e w3 ⟨rfl, hx⟩
   have hlt := vr.lt
   replace vr := vr.kept hx
   replace fr := fr.kept hlt hx
   have vt := vt'.kept vt'.lt hx
   replace hB := ak hB hx
   clear hx hlt ct0 ct1 ct2 ct3 vt'
   obtain ⟨cr0, cr1, cr2, cr3, cr4⟩ := vr
   obtain ⟨fr0, fr1, fr2, fr3, fr4⟩ := fr
   obtain ⟨ct0, ct1, ct2, ct3⟩ := vt
   by_cases htx : eK a b c d = s
   ·have HF := yz (yy HOk (by rw [yy HRR, hr, decide_eq_true htx]; rfl))
    have hne := um htx
    clear HBad HOk HRR hr htx
    go_wp2_with fail
    exact bodyPost_ret (v := .agg #[.int .i64 a, .int .i64 b, .int .i64 c, .int .i64 d, .int .i64 0]) (by simp [results, Tryz.results111, go_sem, cr0, cr1, cr2, cr3, cr4]) rfl ⟨by rw [yy HF], bD hB (Nat.le_refl _) _ _ _ _ _⟩
   ·have HF := yz (yy HBad (by rw [yy HRR, hr, decide_eq_false htx]; rfl))
    have hne := vi htx
    clear HBad HOk HRR hr htx
    go_wp2_with fail
    exact bodyPost_ret (v := .agg #[.int .i64 0, .int .i64 0, .int .i64 0, .int .i64 0, .int .i64 3]) (by simp [results, Tryz.results111, go_sem, cr0, cr1, cr2, cr3, cr4]) rfl ⟨by rw [yy HF], bD hB (Nat.le_refl _) _ _ _ _ _⟩
end
end Go.Proofs.YtdchjcadhlkpfaaGreatDoor
