/- TurnText: the specification's. -/
import Derived.Test.YtijpnnooenpjoaaDoorTurnB
import Derived.Test.YtijpnnooenpjoaaDoorTextMath
import Derived.Test.YtijpnnooenpjoaaDoorBytes
namespace Go.Proofs.YtijpnnooenpjoaaDoor
open Go.RowKit Go.Sort
set_option linter.unusedVariables false

theorem add_str (s t : ByteArray) (w : World) (h : s.size + t.size ≤ 9223372036854775807) : (binOp .add 9 (.string s) (.string t)).run Tryd.prog w = .ok (.string (s ++ t)) w := by
  have hz : ¬ s.size + t.size > 9223372036854775807 := by omega
  simp [go_sem, hz]
theorem conv1 (w : World) (k : UInt8) : (convert 22 9 (.slice (some ⟨w.heap.size, 0, none⟩) 1 1)).run Tryd.prog (w.alloc (.cells #[.int .u8 (k.toNat : Int)] 5)) = .ok (.string ⟨#[k]⟩) (w.alloc (.cells #[.int .u8 (k.toNat : Int)] 5)) :=
  convBytes w 5 #[.int .u8 (k.toNat : Int)] ⟨#[k]⟩ (by simp [Lib.byteCells]) 1

set_option maxRecDepth 100000 in
theorem l01Dec_0 (w : World) :
    Calls Tryd.prog 96 #[.int .i64 0] w fun e w' => e = .returned (.string ⟨#[48]⟩) ∧ Below w.heap.size w w' := by
  go_enter Tryd.func96, Tryd.ntmps96
  go_wp2_with fail
  go_ret
  exact ⟨rfl, Below.refl _ _⟩
set_option maxRecDepth 100000 in
theorem l01Dec_1 (w : World) :
    Calls Tryd.prog 96 #[.int .i64 1] w fun e w' => e = .returned (.string ⟨#[49]⟩) ∧ Below w.heap.size w w' := by
  go_enter Tryd.func96, Tryd.ntmps96
  go_wp2_with fail
  go_loopw [0, 4] (fun u s wr => (u = .int .i64 1 ∧ s = .string ⟨#[]⟩ ∧ wr = w) ∨ (u = .int .i64 0 ∧ s = .string ⟨#[49]⟩ ∧ Hid (Below w.heap.size w wr))) (fun u _ _ => (intOf u).toNat)
  case atStart => exact .inl ⟨rfl, rfl, rfl⟩
  case round =>
    rcases hrel with ⟨rfl, rfl, rfl⟩ | ⟨rfl, rfl, HB⟩
    · have hcv : (convert 22 9 (.slice (some ⟨wr.heap.size, 0, none⟩) 1 1)).run Tryd.prog (wr.alloc (.cells #[.int .u8 49] 5)) = .ok (.string ⟨#[49]⟩) (wr.alloc (.cells #[.int .u8 49] 5)) := conv1 wr 49
      go_wp2
      go_roundw
      case rel => exact .inr ⟨rfl, rfl, hide (below1 _ _)⟩
      case measure => simp [intOf]
    · go_wp2
      go_ret
      exact ⟨rfl, unhide HB⟩
set_option maxRecDepth 100000 in
theorem l01Dec_2 (w : World) :
    Calls Tryd.prog 96 #[.int .i64 2] w fun e w' => e = .returned (.string ⟨#[50]⟩) ∧ Below w.heap.size w w' := by
  go_enter Tryd.func96, Tryd.ntmps96
  go_wp2_with fail
  go_loopw [0, 4] (fun u s wr => (u = .int .i64 2 ∧ s = .string ⟨#[]⟩ ∧ wr = w) ∨ (u = .int .i64 0 ∧ s = .string ⟨#[50]⟩ ∧ Hid (Below w.heap.size w wr))) (fun u _ _ => (intOf u).toNat)
  case atStart => exact .inl ⟨rfl, rfl, rfl⟩
  case round =>
    rcases hrel with ⟨rfl, rfl, rfl⟩ | ⟨rfl, rfl, HB⟩
    · have hcv : (convert 22 9 (.slice (some ⟨wr.heap.size, 0, none⟩) 1 1)).run Tryd.prog (wr.alloc (.cells #[.int .u8 50] 5)) = .ok (.string ⟨#[50]⟩) (wr.alloc (.cells #[.int .u8 50] 5)) := conv1 wr 50
      go_wp2
      go_roundw
      case rel => exact .inr ⟨rfl, rfl, hide (below1 _ _)⟩
      case measure => simp [intOf]
    · go_wp2
      go_ret
      exact ⟨rfl, unhide HB⟩
set_option maxRecDepth 100000 in
theorem l01Dec_3 (w : World) :
    Calls Tryd.prog 96 #[.int .i64 3] w fun e w' => e = .returned (.string ⟨#[51]⟩) ∧ Below w.heap.size w w' := by
  go_enter Tryd.func96, Tryd.ntmps96
  go_wp2_with fail
  go_loopw [0, 4] (fun u s wr => (u = .int .i64 3 ∧ s = .string ⟨#[]⟩ ∧ wr = w) ∨ (u = .int .i64 0 ∧ s = .string ⟨#[51]⟩ ∧ Hid (Below w.heap.size w wr))) (fun u _ _ => (intOf u).toNat)
  case atStart => exact .inl ⟨rfl, rfl, rfl⟩
  case round =>
    rcases hrel with ⟨rfl, rfl, rfl⟩ | ⟨rfl, rfl, HB⟩
    · have hcv : (convert 22 9 (.slice (some ⟨wr.heap.size, 0, none⟩) 1 1)).run Tryd.prog (wr.alloc (.cells #[.int .u8 51] 5)) = .ok (.string ⟨#[51]⟩) (wr.alloc (.cells #[.int .u8 51] 5)) := conv1 wr 51
      go_wp2
      go_roundw
      case rel => exact .inr ⟨rfl, rfl, hide (below1 _ _)⟩
      case measure => simp [intOf]
    · go_wp2
      go_ret
      exact ⟨rfl, unhide HB⟩
set_option maxRecDepth 100000 in
theorem l01Dec_4 (w : World) :
    Calls Tryd.prog 96 #[.int .i64 4] w fun e w' => e = .returned (.string ⟨#[52]⟩) ∧ Below w.heap.size w w' := by
  go_enter Tryd.func96, Tryd.ntmps96
  go_wp2_with fail
  go_loopw [0, 4] (fun u s wr => (u = .int .i64 4 ∧ s = .string ⟨#[]⟩ ∧ wr = w) ∨ (u = .int .i64 0 ∧ s = .string ⟨#[52]⟩ ∧ Hid (Below w.heap.size w wr))) (fun u _ _ => (intOf u).toNat)
  case atStart => exact .inl ⟨rfl, rfl, rfl⟩
  case round =>
    rcases hrel with ⟨rfl, rfl, rfl⟩ | ⟨rfl, rfl, HB⟩
    · have hcv : (convert 22 9 (.slice (some ⟨wr.heap.size, 0, none⟩) 1 1)).run Tryd.prog (wr.alloc (.cells #[.int .u8 52] 5)) = .ok (.string ⟨#[52]⟩) (wr.alloc (.cells #[.int .u8 52] 5)) := conv1 wr 52
      go_wp2
      go_roundw
      case rel => exact .inr ⟨rfl, rfl, hide (below1 _ _)⟩
      case measure => simp [intOf]
    · go_wp2
      go_ret
      exact ⟨rfl, unhide HB⟩
set_option maxRecDepth 100000 in
theorem l01Dec_5 (w : World) :
    Calls Tryd.prog 96 #[.int .i64 5] w fun e w' => e = .returned (.string ⟨#[53]⟩) ∧ Below w.heap.size w w' := by
  go_enter Tryd.func96, Tryd.ntmps96
  go_wp2_with fail
  go_loopw [0, 4] (fun u s wr => (u = .int .i64 5 ∧ s = .string ⟨#[]⟩ ∧ wr = w) ∨ (u = .int .i64 0 ∧ s = .string ⟨#[53]⟩ ∧ Hid (Below w.heap.size w wr))) (fun u _ _ => (intOf u).toNat)
  case atStart => exact .inl ⟨rfl, rfl, rfl⟩
  case round =>
    rcases hrel with ⟨rfl, rfl, rfl⟩ | ⟨rfl, rfl, HB⟩
    · have hcv : (convert 22 9 (.slice (some ⟨wr.heap.size, 0, none⟩) 1 1)).run Tryd.prog (wr.alloc (.cells #[.int .u8 53] 5)) = .ok (.string ⟨#[53]⟩) (wr.alloc (.cells #[.int .u8 53] 5)) := conv1 wr 53
      go_wp2
      go_roundw
      case rel => exact .inr ⟨rfl, rfl, hide (below1 _ _)⟩
      case measure => simp [intOf]
    · go_wp2
      go_ret
      exact ⟨rfl, unhide HB⟩
theorem l01Dec_any (n : Int) (w : World) (h0 : 0 ≤ n) (h5 : n ≤ 5) :
    Calls Tryd.prog 96 #[.int .i64 n] w fun e w' => e = .returned (.string ⟨#[d8 n]⟩) ∧ Below w.heap.size w w' := by
  have h : n = 0 ∨ n = 1 ∨ n = 2 ∨ n = 3 ∨ n = 4 ∨ n = 5 := by omega
  rcases h with rfl | rfl | rfl | rfl | rfl | rfl
  · exact l01Dec_0 w
  · exact l01Dec_1 w
  · exact l01Dec_2 w
  · exact l01Dec_3 w
  · exact l01Dec_4 w
  · exact l01Dec_5 w
set_option maxRecDepth 100000 in
theorem l03Num_any (n : Int) (w : World) (h : -5 ≤ n ∧ n ≤ 5) :
    Calls Tryd.prog 68 #[.int .i64 n] w fun e w' => e = .returned (.string ⟨(dig n).toArray⟩) ∧ Below w.heap.size w w' := by
  by_cases hn : n < 0
  · have hw : wrap64 (-n) = -n := wrap_id (by omega) (by omega)
    have HD : Hid ((dig n).toArray = #[45, d8 (-n)]) := hide (by unfold dig; rw [if_pos hn])
    go_enter Tryd.func68, Tryd.ntmps68
    go_wp2_with fail
    refine (l01Dec_any (-n) _ (by omega) (by omega)).mono ?_
    rintro e w1 ⟨rfl, hx⟩
    go_wp2_with fail
    go_ret
    exact ⟨by rw [unhide HD, ← cat_cons 45 [d8 (-n)]]; rfl, hx⟩
  · have HD : Hid ((dig n).toArray = #[d8 n]) := hide (by unfold dig; rw [if_neg hn])
    go_enter Tryd.func68, Tryd.ntmps68
    go_wp2_with fail
    refine (l01Dec_any n _ (by omega) (by omega)).mono ?_
    rintro e w1 ⟨rfl, hx⟩
    go_wp2_with fail
    go_ret
    exact ⟨by rw [unhide HD]; rfl, hx⟩
set_option maxRecDepth 100000 in
theorem specText_any (a b c d : Int) (w : World) :
    Calls Tryd.prog 29 #[.agg #[.int .i64 a, .int .i64 b, .int .i64 c, .int .i64 d]] w fun e w' => e = .returned (.string (textB a b c d)) ∧ Below w.heap.size w w' := by
  go_enter Tryd.func29, Tryd.ntmps29
  go_wp2_with fail
  refine (specTRight_any a b c d _).mono ?_
  rintro e w1 ⟨rfl, hx⟩
  have va : TurnAt w1 w.heap.size a b c d := (turnAt_new w a b c d _).kept (by simp) hx
  have hB : Below w.heap.size w w1 := below_call (below1 _ _) hx
  clear hx
  cases hr : rightT a b c d
  · have HR := hide (text_no hr)
    go_wp2_with fail
    go_ret
    exact ⟨by rw [unhide HR]; rfl, hB⟩
  · have HR := hide (text_ok hr)
    have HI := hide (inT_iff.1 (rightT_iff.1 hr).1)
    clear hr
    have hva := va
    obtain ⟨c0, c1, c2, c3⟩ := va
    have k0 := cell_regrown c0
    have k1 := cell_regrown c1
    have k2 := cell_regrown c2
    have k3 := cell_regrown c3
    have ca := hide (fun W => l03Num_any a W (unhide HI).1)
    have cb := hide (fun W => l03Num_any b W (unhide HI).2.1)
    have cc := hide (fun W => l03Num_any c W (unhide HI).2.2.1)
    have cd := hide (fun W => l03Num_any d W (unhide HI).2.2.2)
    have HT : Hid ((((((⟨(dig a).toArray⟩ ++ ⟨#[44]⟩) ++ ⟨(dig b).toArray⟩) ++ ⟨#[44]⟩) ++ ⟨(dig c).toArray⟩) ++ ⟨#[44]⟩) ++ ⟨(dig d).toArray⟩ = (⟨(textD a b c d).toArray⟩ : ByteArray)) := hide (by apply ByteArray.ext; simp [textD])
    have l1 := dig_len a
    have l2 := dig_len b
    have l3 := dig_len c
    have l4 := dig_len d
    have e1 : (⟨(dig a).toArray⟩ : ByteArray).size = (dig a).length := rfl
    have e2 : (⟨(dig b).toArray⟩ : ByteArray).size = (dig b).length := rfl
    have e3 : (⟨(dig c).toArray⟩ : ByteArray).size = (dig c).length := rfl
    have e4 : (⟨(dig d).toArray⟩ : ByteArray).size = (dig d).length := rfl
    have e5 : (⟨#[44]⟩ : ByteArray).size = 1 := rfl
    generalize (⟨(dig a).toArray⟩ : ByteArray) = sa at *
    generalize (⟨(dig b).toArray⟩ : ByteArray) = sb at *
    generalize (⟨(dig c).toArray⟩ : ByteArray) = sc at *
    generalize (⟨(dig d).toArray⟩ : ByteArray) = sd at *
    have hk : sa.size ≤ 2 ∧ sb.size ≤ 2 ∧ sc.size ≤ 2 ∧ sd.size ≤ 2 := by omega
    clear l1 l2 l3 l4 e1 e2 e3 e4
    have z1 : ¬ 9223372036854775807 < sa.size + 1 := by omega
    have z2 : ¬ 9223372036854775807 < sa.size + 1 + sb.size := by omega
    have z3 : ¬ 9223372036854775807 < sa.size + 1 + sb.size + 1 := by omega
    have z4 : ¬ 9223372036854775807 < sa.size + 1 + sb.size + 1 + sc.size := by omega
    have z5 : ¬ 9223372036854775807 < sa.size + 1 + sb.size + 1 + sc.size + 1 := by omega
    have z6 : ¬ 9223372036854775807 < sa.size + 1 + sb.size + 1 + sc.size + 1 + sd.size := by omega
    have HU : Hid (textB a b c d = sa ++ (⟨#[44]⟩ : ByteArray) ++ sb ++ (⟨#[44]⟩ : ByteArray) ++ sc ++ (⟨#[44]⟩ : ByteArray) ++ sd) := hide (by rw [unhide HR, ← unhide HT])
    clear hk e5 HT HR
    go_wp2_with fail
    refine wp_region_quiet_below (by kernel_rfl) (by kernel_rfl) ?_
    repeat (quiet_step (first | (with_reducible exact Calls.regrown_of (unhide ca _)) | (with_reducible exact Calls.regrown_of (unhide cb _)) | (with_reducible exact Calls.regrown_of (unhide cc _)) | (with_reducible exact Calls.regrown_of (unhide cd _))))
    refine wpQuiet_nil ?_
    intro _ hw'
    obtain ⟨⟨dq, osq⟩, hw''⟩ := hw'
    subst hw''
    clear c0 c1 c2 c3 k0 k1 k2 k3 ca cb cc cd z1 z2 z3 z4 z5 z6
    go_wp2
    go_ret
    exact ⟨by rw [unhide HU]; rfl, below_call hB (below_regrown w1 dq osq)⟩
end Go.Proofs.YtijpnnooenpjoaaDoor
