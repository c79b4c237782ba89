/- The bytes of a command behind its kind: what each wish says of itself; the plain functions. -/
import Derived.Test.YtnffnjljjecphaaDoorCmD
import Derived.Test.YtnffnjljjecphaaDoorNumT
import Derived.Test.YtnffnjljjecphaaDoorPutText
namespace Go.Proofs.YtnffnjljjecphaaDoor
open Go.RowKit Go.Sort
set_option linter.unusedVariables false
set_option linter.unusedSimpArgs false

/-- the bytes of the first k spots, behind how many -/
def lookTo (S : List D3) : Nat → ByteArray
  | 0 => numS (S.length : Int)
  | k + 1 => lookTo S k ++ numsTo [(vA S k).1, (vA S k).2.1, (vA S k).2.2] 3
def bodyR (c : Cm) : ByteArray :=
  if c.kind = 2 then numsTo [c.A, c.B, c.C, c.D] 4
  else if c.kind = 3 then lookTo c.S c.S.length
  else if c.kind = 4 then numsTo [c.wd, c.ht, c.lv, c.fo] 4 ++ textS c.px
  else ⟨#[]⟩
def cmdS (c : Cm) : ByteArray := if cmdB c = true then sealOf (numS c.kind ++ bodyR c) else ⟨#[]⟩
theorem lookTo_size (S : List D3) (k : Nat) : (lookTo S k).size ≤ 10 + 30 * k := by
  induction k with
  | zero => exact (numS_size _).2
  | succ k ih =>
    have := numsTo_size [(vA S k).1, (vA S k).2.1, (vA S k).2.2] 3
    unfold lookTo
    rw [ByteArray.size_append]
    omega
theorem textS_size (t : ByteArray) : (textS t).size ≤ 8010 := by
  have := (numS_size (t.size : Int)).2
  unfold textS
  split
  · exact Nat.zero_le _
  · rw [ByteArray.size_append]; omega
theorem okI_turn {a b c d : Int} (h : rightT a b c d = true) : (-5 ≤ a ∧ a ≤ 5) ∧ (-5 ≤ b ∧ b ≤ 5) ∧ (-5 ≤ c ∧ c ≤ 5) ∧ (-5 ≤ d ∧ d ≤ 5) := inT_iff.1 (rightT_iff.1 h).1
theorem okI_4 {a b c d : Int} (h1 : okI a) (h2 : okI b) (h3 : okI c) (h4 : okI d) : ∀ i, i < [a, b, c, d].length → okI ([a, b, c, d].getD i 0) := by
  intro i hi
  have hi' : i < 4 := hi
  have hc : i = 0 ∨ i = 1 ∨ i = 2 ∨ i = 3 := by omega
  rcases hc with rfl | rfl | rfl | rfl
  · exact h1
  · exact h2
  · exact h3
  · exact h4
theorem okI_3 {a b c : Int} (h1 : okI a) (h2 : okI b) (h3 : okI c) : ∀ i, i < [a, b, c].length → okI ([a, b, c].getD i 0) := by
  intro i hi
  have hi' : i < 3 := hi
  have hc : i = 0 ∨ i = 1 ∨ i = 2 := by omega
  rcases hc with rfl | rfl | rfl
  · exact h1
  · exact h2
  · exact h3

set_option maxRecDepth 100000 in
theorem resetBody_any (w : World) : Calls Tryd.prog 145 #[.agg #[]] w fun e w' => e = .returned (.string ⟨#[]⟩) ∧ Below w.heap.size w w' := by
  go_enter Tryd.func145, Tryd.ntmps145
  go_wp2
  go_ret
  exact ⟨rfl, below1 _ _⟩
set_option maxHeartbeats 1000000 in
set_option maxRecDepth 100000 in
theorem gyroBody_any (A B C D : Int) (w : World) (h : rightT A B C D = true) : Calls Tryd.prog 147 #[.agg #[.int .i64 A, .int .i64 B, .int .i64 C, .int .i64 D]] w fun e w' => e = .returned (.string (numsTo [A, B, C, D] 4)) ∧ Below w.heap.size w w' := by
  have hb := okI_turn h
  have Z := below2 w (.cells #[.int .i64 A, .int .i64 B, .int .i64 C, .int .i64 D] 106) (.cells #[.int .i64 A, .int .i64 B, .int .i64 C, .int .i64 D] 2)
  have cN := hide (numbersText_any [A, B, C, D] (some ⟨(w.alloc (.cells #[.int .i64 A, .int .i64 B, .int .i64 C, .int .i64 D] 106)).heap.size, 0, none⟩) 4 _ (by simp) (okI_4 (by unfold okI; omega) (by unfold okI; omega) (by unfold okI; omega) (by unfold okI; omega)) (numL_new (w.alloc (.cells #[.int .i64 A, .int .i64 B, .int .i64 C, .int .i64 D] 106)) [A, B, C, D] 2))
  have e4 : [A, B, C, D].length = 4 := rfl
  rw [e4] at cN
  generalize numsTo [A, B, C, D] 4 = tx at *
  have e1 : (w.alloc (.cells #[.int .i64 A, .int .i64 B, .int .i64 C, .int .i64 D] 106)).heap.size = w.heap.size + 1 := by simp
  rw [e1] at cN
  clear e1 e4 h hb
  have HZ := hide Z
  clear Z
  go_enter Tryd.func147, Tryd.ntmps147
  go_wp2_with fail
  refine (unhide cN).mono ?_
  rintro e w1 ⟨rfl, hx⟩
  have B1 := hide (below_call (unhide HZ) hx)
  clear hx
  go_wp2_with fail
  go_ret
  exact ⟨rfl, unhide B1⟩
theorem spot_wide {S : List D3} (h : spotsB S = true) {k : Nat} (hk : k < S.length) : (-1800 ≤ (vA S k).1 ∧ (vA S k).1 ≤ 1800) ∧ (-1800 ≤ (vA S k).2.1 ∧ (vA S k).2.1 ≤ 1800) ∧ (-1800 ≤ (vA S k).2.2 ∧ (vA S k).2.2 ≤ 1800) :=
  withinB_iff.1 (wide_iff (okV_wide ((spots_ok h).2 k hk))).2

set_option maxHeartbeats 2000000 in
set_option maxRecDepth 100000 in
theorem lookBody_any (S : List D3) (a : Option Addr) (c : Nat) (w : World) (hsp : spotsB S = true) (hS : Dirs w a S S.length) : Calls Tryd.prog 149 #[.agg #[.slice a S.length c]] w fun e w' => e = .returned (.string (lookTo S S.length)) ∧ Below w.heap.size w w' := by
  have h6 := (spots_ok hsp).1
  have HW := hide (fun (k : Nat) (hk : k < S.length) => spot_wide hsp hk)
  have HZ : Hid (lookTo S 0 = numS (S.length : Int)) := hide rfl
  have B0 := hide (below1 w (.cells #[.slice a S.length c] 108))
  have A0 := hide (blk_new w [.slice a S.length c] 108)
  have HS := hide (hS.kept (unhide B0))
  clear hS hsp
  generalize S.length = n at *
  go_enter Tryd.func149, Tryd.ntmps149
  go_wp2_with fail
  refine (implPutNum_any (n : Int) _ (by omega) (by omega)).mono ?_
  rintro e w1 ⟨rfl, hx⟩
  rw [← unhide HZ]
  have B1 := hide (below_call (unhide B0) hx)
  have S1 := hide ((unhide HS).kept hx)
  have a0 := ((unhide A0).kept hx).cell 0 _ rfl
  clear hx HZ HS A0 B0
  rcases unhide S1 with rfl | ⟨b, o, rfl, hb, hc⟩
  · go_wp2_with fail
    refine wp_loop_rounds 1 ?_
    rw [rounds_succ]
    go_wp2_with fail
    go_ret
    exact ⟨rfl, unhide B1⟩
  have HC := hide hc
  clear hc S1
  go_wp2_with fail
  clear a0
  have hw1 := (unhide B1).size
  go_loopw [3, 13] (fun t i wr => ∃ k : Nat, k ≤ n ∧ i = .int .i64 k ∧ t = .string (lookTo S k) ∧ Hid (Below w1.heap.size w1 wr)) (fun _ i _ => n - (intOf i).toNat)
  case atStart => exact ⟨0, by omega, rfl, rfl, hide (Below.refl _ _)⟩
  case round =>
    obtain ⟨k, hk, rfl, rfl, HB⟩ := hrel
    by_cases hkn : k < n
    · obtain ⟨c0, c1, c2⟩ := ((unhide HC) k hkn).kept hb (unhide HB)
      have hkn2 : (k : Int) < (n : Int) := by omega
      obtain ⟨g1, g2, g3⟩ := unhide HW k hkn
      have HE : Hid (lookTo S (k + 1) = lookTo S k ++ numsTo [(vA S k).1, (vA S k).2.1, (vA S k).2.2] 3) := hide rfl
      have z0 := lookTo_size S k
      generalize (vA S k).1 = x0 at *
      generalize (vA S k).2.1 = x1 at *
      generalize (vA S k).2.2 = x2 at *
      have z1 := numsTo_size [x0, x1, x2] 3
      have hlt := (unhide HB).size
      have Z := below_call (unhide HB) (below2 wr (.cells #[.int .i64 x0, .int .i64 x1, .int .i64 x2] 75) (.cells #[.int .i64 x0, .int .i64 x1, .int .i64 x2] 2))
      have HZ2 := hide Z
      have e1 : (wr.alloc (.cells #[.int .i64 x0, .int .i64 x1, .int .i64 x2] 75)).heap.size = wr.heap.size + 1 := by simp
      have cN := hide (numbersText_any [x0, x1, x2] (some ⟨(wr.alloc (.cells #[.int .i64 x0, .int .i64 x1, .int .i64 x2] 75)).heap.size, 0, none⟩) 3 _ (by simp) (okI_3 (by unfold okI; omega) (by unfold okI; omega) (by unfold okI; omega)) (numL_new (wr.alloc (.cells #[.int .i64 x0, .int .i64 x1, .int .i64 x2] 75)) [x0, x1, x2] 2))
      have e3 : [x0, x1, x2].length = 3 := rfl
      rw [e3, e1] at cN
      generalize numsTo [x0, x1, x2] 3 = tx at *
      generalize lookTo S k = t at *
      clear e3 e1 Z g1 g2 g3 hlt
      go_wp2_with fail
      refine (unhide cN).mono ?_
      rintro e w2 ⟨rfl, hx⟩
      have HB1 := hide (below_call (unhide HZ2) hx)
      clear hx HB c0 c1 c2 HZ2 cN
      go_wp2_with fail
      refine (joinTexts_any _ _ _ (by omega) (by omega)).mono ?_
      rintro e w3 ⟨rfl, hx⟩
      have HB2 := hide (below_call (unhide HB1) hx)
      clear hx HB1
      rw [← unhide HE]
      go_wp2_with fail
      go_roundw
      case rel => exact ⟨k + 1, by omega, by go_num, rfl, HB2⟩
      case measure => simp [intOf]; omega
    · have hkn' : k = n := by omega
      subst hkn'
      go_wp2_with fail
      go_ret
      exact ⟨rfl, below_call (unhide B1) (unhide HB)⟩

end Go.Proofs.YtnffnjljjecphaaDoor
