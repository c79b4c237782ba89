/- What the law on BlobsOf does with what was answered: compared, written over, found again. -/
import Derived.Test.YteelpcpkgmcmbaaBlI
import Derived.Test.YteelpcpkgmcmbaaListB
namespace Go.Proofs.Yteelpcpkgmcmbaa
open Go.RowKit Go.Sort
set_option linter.unusedVariables false

theorem PRow.slice {w : World} {t : TypeId} {c lo hi n : Nat} {v : Value} {f : Nat → Value} (h : PRow w t c lo hi n v f) : ∃ a k, v = .slice a n k := by
  rcases h with ⟨rfl, a, k, rfl⟩ | ⟨g, k, rfl, _⟩
  · exact ⟨a, k, rfl⟩
  · exact ⟨_, k, rfl⟩
set_option maxHeartbeats 1000000 in
set_option maxRecDepth 100000 in
theorem eqBlobsOut_any (n lo hi lo' hi' : Nat) (v v' : Value) (code : Int) (fI : Nat → Int) (fB : Nat → Bool) (w : World) (hn : n ≤ 1048576) (h : PRow w 45 5 lo hi n v (valBlobS fI fB)) (h' : PRow w 45 5 lo' hi' n v' (valBlobS fI fB)) :
    Calls Try.prog 20 #[.agg #[v, .int .i64 code], .agg #[v', .int .i64 code]] w fun e w' => e = .returned (.bool true) ∧ Below w.heap.size w w' := by
  obtain ⟨a, k, rfl⟩ := h.slice
  obtain ⟨a', k', rfl⟩ := h'.slice
  have B1 := below2 w (.cells #[.slice a n k, .int .i64 code] 37) (.cells #[.slice a' n k', .int .i64 code] 37)
  have O1 := (blk_new w [.slice a n k, .int .i64 code] 37).alloc (.cells #[.slice a' n k', .int .i64 code] 37)
  have O2 := blk_new (w.alloc (.cells #[.slice a n k, .int .i64 code] 37)) [.slice a' n k', .int .i64 code] 37
  have e1 : (w.alloc (.cells #[.slice a n k, .int .i64 code] 37)).heap.size = w.heap.size + 1 := by simp
  rw [e1] at O2
  clear e1
  go_enter Try.func20, Try.ntmps20
  go_wp2_with fail
  refine (eqBlobS_any n lo hi lo' hi' _ _ fI fB _ hn (h.kept B1) (h'.kept B1)).mono ?_
  rintro e w1 ⟨rfl, hx⟩
  have p1 := (O1.kept hx).cell 1 _ rfl
  have q1 := (O2.kept hx).cell 1 _ rfl
  have B2 := below_call B1 hx
  clear hx B1 O1 O2
  go_wp2_with fail
  go_ret
  exact ⟨rfl, B2⟩
set_option maxHeartbeats 1000000 in
set_option maxRecDepth 100000 in
theorem markBlobsOut_any (n lo hi : Nat) (v : Value) (code : Int) (f : Nat → Value) (w : World) (hn : n ≤ 1048576) (hb : hi ≤ w.heap.size) (h : PRow w 45 5 lo hi n v f) :
    Calls Try.prog 21 #[.agg #[v, .int .i64 code], .int .i64 1] w fun e w' => e = .returned (.int .i64 (1 + (n : Int) * 5)) ∧ PRow w' 45 5 lo hi n v markBlobSV ∧ ∃ w1, Below w.heap.size w w1 ∧ Apart lo hi w1 w' := by
  obtain ⟨a, k, rfl⟩ := h.slice
  have B1 := below1 w (.cells #[.slice a n k, .int .i64 code] 37)
  go_enter Try.func21, Try.ntmps21
  go_wp2_with fail
  refine (markBlobS_any n lo hi _ f _ hn (h.kept B1)).mono ?_
  rintro e w1 ⟨rfl, hp, ha⟩
  go_wp2_with fail
  go_ret
  exact ⟨rfl, hp, _, B1, ha⟩
set_option maxHeartbeats 1000000 in
set_option maxRecDepth 100000 in
theorem heldBlobsOut_any (n lo hi : Nat) (v : Value) (code : Int) (w : World) (hn : n ≤ 1048576) (h : PRow w 45 5 lo hi n v markBlobSV) :
    Calls Try.prog 22 #[.agg #[v, .int .i64 code], .int .i64 1] w fun e w' => e = .returned (.int .i64 (1 + (n : Int) * 5)) ∧ Below w.heap.size w w' := by
  obtain ⟨a, k, rfl⟩ := h.slice
  have B1 := below1 w (.cells #[.slice a n k, .int .i64 code] 37)
  have cH := hide (heldBlobS_any n lo hi _ _ hn (h.kept B1))
  obtain ⟨K, hK⟩ : ∃ K : Int, K = 1 + (n : Int) * 5 := ⟨_, rfl⟩
  rw [← hK] at cH ⊢
  have hk0 : ¬ K < 0 := by omega
  clear hK
  go_enter Try.func22, Try.ntmps22
  go_wp2_with fail
  refine (unhide cH).mono ?_
  rintro e w1 ⟨rfl, rfl⟩
  go_wp2_with fail
  go_ret
  exact ⟨rfl, B1⟩
end Go.Proofs.Yteelpcpkgmcmbaa
