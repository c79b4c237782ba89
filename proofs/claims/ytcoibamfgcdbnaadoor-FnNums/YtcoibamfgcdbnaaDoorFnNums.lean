/- The law on numbers and texts in bytes, walked: it answers true. -/
import Derived.Test.YtcoibamfgcdbnaaDoorBackMath
import Derived.Test.YtcoibamfgcdbnaaDoorDraw2
import Derived.Test.YtcoibamfgcdbnaaDoorHandle
import Derived.Laws.IdiomStrings
namespace Go.Proofs.YtcoibamfgcdbnaaDoor
open Go.RowKit
set_option linter.unusedVariables false

theorem Row.below {w w' : World} {a : Option Addr} {len : Nat} (h : Row w a len w.heap.size) (hB : Below w.heap.size w w') : Row w' a len w'.heap.size := by
  rcases h.kept hB.block with h | ⟨bx, ox, ha, hb, hc⟩
  · exact .inl h
  · exact .inr ⟨bx, ox, ha, Nat.lt_of_lt_of_le hb hB.size, hc⟩

theorem cut_list (s : ByteArray) (k : Nat) : (s.extract 0 k).data.toList = s.data.toList.take k := by
  simp only [ByteArray.data_extract, Array.toList_extract, List.extract_eq_take_drop, List.drop_zero, Nat.sub_zero]

set_option maxHeartbeats 1000000 in
theorem fnNums_big (a0 a1 : Option Addr) (len0 cap0 len1 cap1 : Nat) (w : World) (h0 : len0 ≤ 9223372036854775807) (h1 : len1 ≤ 9223372036854775807) (h : 1048576 < len0 ∨ 1048576 < len1) :
    Calls Tryd.prog 3 #[.slice a0 len0 cap0, .slice a1 len1 cap1] w fun e w' => e = .returned (.bool true) ∧ Below w.heap.size w w' := by
  have h' : 1048576 < len0 ∨ (len0 ≤ 1048576 ∧ 1048576 < len1) := by omega
  rcases h' with h | h
  all_goals
    go_enter Tryd.func3, Tryd.ntmps3
    go_wp2
    go_ret
    exact ⟨rfl, Below.refl _ _⟩

set_option maxRecDepth 100000 in
set_option maxHeartbeats 4000000 in
theorem fnNums_any (a0 a1 : Option Addr) (len0 cap0 len1 cap1 : Nat) (w : World) (h0 : len0 ≤ 1048576) (h1 : len1 ≤ 1048576) (r0 : Row w a0 len0 w.heap.size) (r1 : Row w a1 len1 w.heap.size) (hg : errLaid w) :
    Calls Tryd.prog 3 #[.slice a0 len0 cap0, .slice a1 len1 cap1] w fun e w' => e = .returned (.bool true) ∧ Below w.heap.size w w' := by
  have R0 := hide r0
  have R1 := hide r1
  have HG := hide hg
  clear r0 r1 hg
  go_enter Tryd.func3, Tryd.ntmps3
  go_wp2_with fail
  refine (drawPutNum_any a0 len0 cap0 w h0 (unhide R0)).mono ?_
  rintro e w1 ⟨n, rfl, n0, n1, hB1⟩
  have HN := hide (And.intro n0 n1)
  clear n0 n1
  go_wp2_with fail
  refine (implPutNum_any n _ (unhide HN).1 (unhide HN).2).mono ?_
  rintro e w2 ⟨rfl, hb2⟩
  have hB2 := hB1.trans (hb2.mono hB1.size)
  clear hB1 hb2
  go_wp2_with fail
  refine (specPutNum_any n _ (unhide HN).1 (unhide HN).2).mono ?_
  rintro e w3 ⟨rfl, hb3⟩
  have hB3 := hB2.trans (hb3.mono hB2.size)
  clear hB2 hb3
  have hT := numS_size n
  have HBk := hide (fun W hgW => (by have h := implGetNum_any (⟨#[120, 121]⟩ ++ numS n ++ ⟨#[122]⟩) 2 W (by have := (numS_size n).2; rw [ByteArray.size_append, ByteArray.size_append]; have : (⟨#[120, 121]⟩ : ByteArray).size = 2 := rfl; have : (⟨#[122]⟩ : ByteArray).size = 1 := rfl; omega) (by omega) hgW
                                     have hr := getRes_back n (unhide HN).1 (unhide HN).2 ⟨#[120, 121]⟩ ⟨#[122]⟩ (by decide) (by decide)
                                     rw [show (((⟨#[120, 121]⟩ : ByteArray).size : Nat) : Int) = 2 from rfl] at hr
                                     rw [hr, show (((⟨#[120, 121]⟩ : ByteArray).size + (numS n).size : Nat) : Int) = ((numS n).size : Int) + 2 by have : (⟨#[120, 121]⟩ : ByteArray).size = 2 := rfl; omega] at h
                                     exact h : Calls Tryd.prog 7 #[.string (⟨#[120, 121]⟩ ++ numS n ++ ⟨#[122]⟩), .int .i64 2] W fun e w' => e = .returned (.agg #[.int .i64 n, .int .i64 (((numS n).size : Int) + 2), .int .i64 0]) ∧ Below W.heap.size W w'))
  have HCt := hide (fun (s : ByteArray) (hs : s.data.toList = (numS n).data.toList.take ((numS n).size - 1)) => getRes_cut n (unhide HN).1 (unhide HN).2 s hs)
  generalize numS n = T at *
  obtain ⟨t0, t1⟩ := hT
  go_wp2_with fail
  refine (unhide HBk _ (errLaid_below (unhide HG) hB3)).mono ?_
  rintro e w4 ⟨rfl, hb4⟩
  have hB4 := hB3.trans (hb4.mono hB3.size)
  clear hB3 hb4
  go_wp2_with fail
  have HC2 := hide (fun W hgW => (by
    have h := implGetNum_any (T.extract 0 (T.size - 1)) 0 W (by simp; omega) (by omega) hgW
    rw [unhide HCt _ (cut_list _ _)] at h
    exact h : Calls Tryd.prog 7 #[.string (T.extract 0 (T.size - 1)), .int .i64 0] W fun e w' => e = .returned (.agg #[.int .i64 0, .int .i64 0, .int .i64 4]) ∧ Below W.heap.size W w'))
  have hBa := hB4.alloc hB4.size (.cells #[.int .i64 n, .int .i64 ((T.size : Int) + 2), .int .i64 0] 26)
  refine (unhide HC2 _ (errLaid_below (unhide HG) hBa)).mono ?_
  rintro e w5 ⟨rfl, hb5⟩
  have hB5 := hBa.trans (hb5.mono hBa.size)
  clear hB4 hBa hb5
  have hfd : ∀ W : World, (Instr.field 26 (.agg #[.int .i64 0, .int .i64 0, .int .i64 4]) 2).run Tryd.prog W = .ok (.int .i64 4) W := fun _ => by kernel_rfl
  go_wp2_with fail
  refine (drawPutText_any a1 len1 cap1 _ h1 ((unhide R1).below hB5)).mono ?_
  rintro e w6 ⟨u, rfl, hu, hb6⟩
  have hB6 := hB5.trans (hb6.mono hB5.size)
  clear hB5 hb6 hfd t0 t1
  have hu1 : u.size ≤ 1048576 := by omega
  go_wp2_with fail
  refine (implPutText_any u _ hu1).mono ?_
  rintro e w7 ⟨rfl, hb7⟩
  have hB7 := hB6.trans (hb7.mono hB6.size)
  clear hB6 hb7
  go_wp2_with fail
  refine (specPutText_any u _ hu1).mono ?_
  rintro e w8 ⟨rfl, hb8⟩
  have hB8 := hB7.trans (hb8.mono hB7.size)
  clear hB7 hb8
  rcases hu with hu | hu
  · have hP : textS u = numS (u.size : Int) ++ u := by rw [textS, if_neg (by omega)]
    have hz : (textS u).size = (numS (u.size : Int)).size + u.size := by rw [hP, ByteArray.size_append]
    have hns := numS_size (u.size : Int)
    have p0 : 1 ≤ (textS u).size := by omega
    have p1 : (textS u).size ≤ 30 := by omega
    have hne : (textS u).toList.isEmpty = false := by
      rw [ByteArray.toList_eq]
      cases hq : (textS u).data.toList with
      | nil => have := size_data (textS u); rw [hq] at this; simp at this; omega
      | cons x l => rfl
    have HG1 := hide (fun W hgW => (by
      have h := implGetText_any (⟨#[120]⟩ ++ textS u) 1 W (by rw [ByteArray.size_append]; have : (⟨#[120]⟩ : ByteArray).size = 1 := rfl; omega) (by omega) hgW
      have hr := textRes_back u ⟨#[120]⟩ (⟨#[120]⟩ ++ textS u) (by omega) (by rw [hP]; simp [ByteArray.data_append])
      rw [show (((⟨#[120]⟩ : ByteArray).size : Nat) : Int) = 1 from rfl] at hr
      rw [getTextRes, if_neg (by rw [ByteArray.size_append]; have : (⟨#[120]⟩ : ByteArray).size = 1 := rfl; omega), hr, textOut, show (((⟨#[120]⟩ : ByteArray).size + (numS (u.size : Int)).size + u.size : Nat) : Int) = ((textS u).size : Int) + 1 by have : (⟨#[120]⟩ : ByteArray).size = 1 := rfl; omega] at h
      exact h : Calls Tryd.prog 11 #[.string (⟨#[120]⟩ ++ textS u), .int .i64 1] W fun e w' => e = .returned (.agg #[.string u, .int .i64 (((textS u).size : Int) + 1), .int .i64 0]) ∧ Below W.heap.size W w'))
    have HG2 := hide (fun W hgW => (by
      have h := implGetText_any ((textS u).extract 0 ((textS u).size - 1)) 0 W (by simp; omega) (by omega) hgW
      have hr := textRes_cut u ((textS u).extract 0 ((textS u).size - 1)) (by omega) (by rw [cut_list, hz, hP, ByteArray.data_append, Array.toList_append])
      rw [getTextRes, if_neg (by simp; omega), hr, textOut] at h
      exact h : Calls Tryd.prog 11 #[.string ((textS u).extract 0 ((textS u).size - 1)), .int .i64 0] W fun e w' => e = .returned (.agg #[.string ⟨#[]⟩, .int .i64 0, .int .i64 4]) ∧ Below W.heap.size W w'))
    have HS := hide (specPutText_any u)
    clear hz hns hP
    generalize textS u = P at *
    go_wp2_with fail
    refine (unhide HG1 _ (errLaid_below (unhide HG) hB8)).mono ?_
    rintro e w9 ⟨rfl, hb9⟩
    have hB9 := hB8.trans (hb9.mono hB8.size)
    clear hB8 hb9
    go_wp2_with fail
    refine (unhide HG2 _ (errLaid_below (unhide HG) hB9)).mono ?_
    rintro e w10 ⟨rfl, hb10⟩
    have hB10 := hB9.trans (hb10.mono hB9.size)
    clear hB9 hb10
    have hfd : ∀ W : World, (Instr.field 31 (.agg #[.string ⟨#[]⟩, .int .i64 0, .int .i64 4]) 2).run Tryd.prog W = .ok (.int .i64 4) W := fun _ => by kernel_rfl
    go_wp2
    go_ret
    exact ⟨rfl, hB10⟩
  · have hP : textS u = ⟨#[]⟩ := by rw [textS, if_pos (by omega)]
    have HS := hide (fun W => (by have h := specPutText_any u W hu1; rw [hP] at h; exact h : Calls Tryd.prog 10 #[.string u] W fun e w' => e = .returned (.string ⟨#[]⟩) ∧ Below W.heap.size W w'))
    rw [hP]
    clear hP
    go_wp2_with fail
    refine (unhide HS _).mono ?_
    rintro e w9 ⟨rfl, hb9⟩
    have hB9 := hB8.trans (hb9.mono hB8.size)
    clear hB8 hb9
    go_wp2
    go_ret
    exact ⟨rfl, hB9⟩
end Go.Proofs.YtcoibamfgcdbnaaDoor
