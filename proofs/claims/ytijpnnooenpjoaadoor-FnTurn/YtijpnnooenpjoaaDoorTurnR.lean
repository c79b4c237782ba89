/- TurnRead: the program's. -/
import Derived.Test.YtijpnnooenpjoaaDoorLooseT
import Derived.Test.YtijpnnooenpjoaaDoorTurnT
import Derived.Test.YtijpnnooenpjoaaDoorTurnO
namespace Go.Proofs.YtijpnnooenpjoaaDoor
open Go.RowKit
set_option linter.unusedVariables false

theorem tstr_eq {a b : ByteArray} (h : a = b) : (a.toList == b.toList) = true := by subst h; simp
theorem tstr_ne {a b : ByteArray} (h : a ≠ b) : (a.toList == b.toList) = false := by
  rw [ByteArray.toList_eq, ByteArray.toList_eq]
  simp
  intro e
  exact h (ByteArray.ext e)
theorem read_size {s : ByteArray} (h : 8000 < s.size) : Value.agg #[.int .i64 (readP s (looseP s).a), .int .i64 (readP s (looseP s).b), .int .i64 (readP s (looseP s).c), .int .i64 (readP s (looseP s).d), .int .i64 (readC s)] = Value.agg #[.int .i64 0, .int .i64 0, .int .i64 0, .int .i64 0, .int .i64 2] := by
  unfold readP readC
  rw [if_neg (by omega), if_neg (by omega), if_neg (by omega), if_neg (by omega), if_neg (by omega)]
theorem read_bad {s : ByteArray} (h : s.size ≤ 8000) (hr : readR s = false) : Value.agg #[.int .i64 (readP s (looseP s).a), .int .i64 (readP s (looseP s).b), .int .i64 (readP s (looseP s).c), .int .i64 (readP s (looseP s).d), .int .i64 (readC s)] = Value.agg #[.int .i64 0, .int .i64 0, .int .i64 0, .int .i64 0, .int .i64 3] := by
  unfold readP readC
  rw [hr, if_neg (by simp), if_neg (by simp), if_neg (by simp), if_neg (by simp), if_pos h]
  rfl
theorem read_ok {s : ByteArray} (h : s.size ≤ 8000) (hr : readR s = true) : Value.agg #[.int .i64 (readP s (looseP s).a), .int .i64 (readP s (looseP s).b), .int .i64 (readP s (looseP s).c), .int .i64 (readP s (looseP s).d), .int .i64 (readC s)] = Value.agg #[.int .i64 (looseP s).a, .int .i64 (looseP s).b, .int .i64 (looseP s).c, .int .i64 (looseP s).d, .int .i64 0] := by
  unfold readP readC
  rw [hr, if_pos ⟨h, rfl⟩, if_pos ⟨h, rfl⟩, if_pos ⟨h, rfl⟩, if_pos ⟨h, rfl⟩, if_pos h]
  rfl

set_option maxHeartbeats 1000000 in
set_option maxRecDepth 100000 in
theorem turnRead_any (s : ByteArray) (w : World) (hs : s.size ≤ 9223372036854775807) (ht : Tab w) :
    Calls Tryd.prog 21 #[.string s] w fun e w' => e = .returned (.agg #[.int .i64 (readP s (looseP s).a), .int .i64 (readP s (looseP s).b), .int .i64 (readP s (looseP s).c), .int .i64 (readP s (looseP s).d), .int .i64 (readC s)]) ∧ Below w.heap.size w w' := by
  have HT := hide ht
  clear ht
  by_cases h8 : 8000 < s.size
  · have HR := hide (read_size h8)
    go_enter Tryd.func21, Tryd.ntmps21
    go_wp2_with fail
    exact bodyPost_ret (v := .agg #[.int .i64 0, .int .i64 0, .int .i64 0, .int .i64 0, .int .i64 2]) (by simp [results, Tryd.results21, go_sem]) rfl ⟨by rw [unhide HR], below1 _ _⟩
  · have h8' : s.size ≤ 8000 := by omega
    have h8i : ¬ (8000 : Int) < (s.size : Int) := by omega
    have HB8 := hide h8'
    have HBad := hide (fun h => read_bad h8' h)
    have HOk := hide (fun h => read_ok h8' h)
    have HRR : Hid (readR s = (rightT (looseP s).a (looseP s).b (looseP s).c (looseP s).d && decide (textB (looseP s).a (looseP s).b (looseP s).c (looseP s).d = s))) := hide rfl
    have HL := hide (fun W => looseTurn_any s W h8')
    generalize looseP s = t at HBad HOk HRR HL ⊢
    generalize t.a = a at HBad HOk HRR HL ⊢
    generalize t.b = b at HBad HOk HRR HL ⊢
    generalize t.c = c at HBad HOk HRR HL ⊢
    generalize t.d = d at HBad HOk HRR HL ⊢
    clear h8 h8'
    go_enter Tryd.func21, Tryd.ntmps21
    go_wp2_with fail
    refine (unhide HL _).mono ?_
    rintro e w1 ⟨rfl, hx⟩
    have hxs := (outAt_new w 0 0 0 0 0 45)
    have hfs := (freeO_new w 0 0 0 0 0 45)
    have vr := (hxs.kept hx).alloc (.cells #[.int .i64 a, .int .i64 b, .int .i64 c, .int .i64 d] 37)
    have fr := (hfs.kept hxs.lt hx).kept (hxs.kept hx).lt (below1 w1 (.cells #[.int .i64 a, .int .i64 b, .int .i64 c, .int .i64 d] 37))
    have vt := turnAt_new w1 a b c d 37
    have hB := (below_call (below1 w _) hx).alloc (below_call (below1 w _) hx).size (.cells #[.int .i64 a, .int .i64 b, .int .i64 c, .int .i64 d] 37)
    clear hx hxs hfs HL
    go_wp2_with fail
    refine (turnRight_any a b c d _).mono ?_
    rintro e w2 ⟨rfl, hx⟩
    have hlt := vr.lt
    replace vr := vr.kept hx
    replace fr := fr.kept hlt hx
    replace vt := vt.kept vt.lt hx
    replace hB := below_call hB hx
    clear hx hlt
    cases hr : rightT a b c d
    · have HF := hide (unhide HBad (by rw [unhide HRR, hr]; rfl))
      obtain ⟨cr0, cr1, cr2, cr3, cr4⟩ := vr
      obtain ⟨fr0, fr1, fr2, fr3, fr4⟩ := fr
      clear HBad HOk HRR hr
      go_wp2_with fail
      exact bodyPost_ret (v := .agg #[.int .i64 0, .int .i64 0, .int .i64 0, .int .i64 0, .int .i64 3]) (by simp [results, Tryd.results21, go_sem, cr0, cr1, cr2, cr3, cr4]) rfl ⟨by rw [unhide HF], below_set5 hB (Nat.le_refl _) _ _ _ _ _⟩
    · have vt' := vt
      obtain ⟨ct0, ct1, ct2, ct3⟩ := vt
      go_wp2_with fail
      refine (turnText_any a b c d _ ((unhide HT).kept hB)).mono ?_
      rintro e w3 ⟨rfl, hx⟩
      have hlt := vr.lt
      replace vr := vr.kept hx
      replace fr := fr.kept hlt hx
      have vt := vt'.kept vt'.lt hx
      replace hB := below_call hB hx
      clear hx hlt ct0 ct1 ct2 ct3 vt'
      obtain ⟨cr0, cr1, cr2, cr3, cr4⟩ := vr
      obtain ⟨fr0, fr1, fr2, fr3, fr4⟩ := fr
      obtain ⟨ct0, ct1, ct2, ct3⟩ := vt
      by_cases htx : textB a b c d = s
      · have HF := hide (unhide HOk (by rw [unhide HRR, hr, decide_eq_true htx]; rfl))
        have hne := tstr_eq htx
        clear HBad HOk HRR hr htx
        go_wp2_with fail
        exact bodyPost_ret (v := .agg #[.int .i64 a, .int .i64 b, .int .i64 c, .int .i64 d, .int .i64 0]) (by simp [results, Tryd.results21, go_sem, cr0, cr1, cr2, cr3, cr4]) rfl ⟨by rw [unhide HF], below_set5 hB (Nat.le_refl _) _ _ _ _ _⟩
      · have HF := hide (unhide HBad (by rw [unhide HRR, hr, decide_eq_false htx]; rfl))
        have hne := tstr_ne htx
        clear HBad HOk HRR hr htx
        go_wp2_with fail
        exact bodyPost_ret (v := .agg #[.int .i64 0, .int .i64 0, .int .i64 0, .int .i64 0, .int .i64 3]) (by simp [results, Tryd.results21, go_sem, cr0, cr1, cr2, cr3, cr4]) rfl ⟨by rw [unhide HF], below_set5 hB (Nat.le_refl _) _ _ _ _ _⟩
end Go.Proofs.YtijpnnooenpjoaaDoor
