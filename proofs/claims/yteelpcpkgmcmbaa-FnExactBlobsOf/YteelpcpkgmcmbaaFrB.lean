/- The laws on FrameRight and BlobGood, walked. -/
import Derived.Test.YteelpcpkgmcmbaaFrA
namespace Go.Proofs.Yteelpcpkgmcmbaa
open Go.RowKit Go.Sort
set_option linter.unusedVariables false

/-- the cells vs lie at block b, from its first cell on -/
def SAt (w : World) (b : Nat) (vs : List Value) : Prop := ∀ i v, vs[i]? = some v → w.cell? ⟨b, i, none⟩ = some v
theorem SAt.lt {w : World} {b : Nat} {v : Value} {vs : List Value} (h : SAt w b (v :: vs)) : b < w.heap.size := World.block_lt_of_cell? w _ (h 0 v rfl)
theorem SAt.kept {w w' : World} {b : Nat} {v : Value} {vs : List Value} (h : SAt w b (v :: vs)) (hB : Below w.heap.size w w') : SAt w' b (v :: vs) := fun i u hu => by
  rw [hB.cell (p := ⟨b, i, none⟩) h.lt]; exact h i u hu
theorem sAt_new (w : World) (vs : List Value) (t : TypeId) : SAt (w.alloc (.cells vs.toArray t)) w.heap.size vs := fun i u hu => by
  simp [hu]
theorem SAt.c3 {w : World} {b : Nat} {x y z : Value} (h : SAt w b [x, y, z]) : w.cell? ⟨b, 0, none⟩ = some x ∧ w.cell? ⟨b, 1, none⟩ = some y ∧ w.cell? ⟨b, 2, none⟩ = some z := ⟨h 0 x rfl, h 1 y rfl, h 2 z rfl⟩
theorem SAt.c5 {w : World} {b : Nat} {x y z u v : Value} (h : SAt w b [x, y, z, u, v]) : w.cell? ⟨b, 0, none⟩ = some x ∧ w.cell? ⟨b, 1, none⟩ = some y ∧ w.cell? ⟨b, 2, none⟩ = some z ∧ w.cell? ⟨b, 3, none⟩ = some u ∧ w.cell? ⟨b, 4, none⟩ = some v := ⟨h 0 x rfl, h 1 y rfl, h 2 z rfl, h 3 u rfl, h 4 v rfl⟩
theorem neq_bool_self (b : Bool) (w : World) : (binOp .neq 4 (.bool b) (.bool b)).run Try.prog w = .ok (.bool false) w := by cases b <;> simp [go_sem]

set_option maxHeartbeats 1000000 in
set_option maxRecDepth 100000 in
theorem lawBlobGood (ar su sx sy : Int) (ed : Bool) (lo hi : Int) (w : World) :
    Calls Try.prog 7 #[.agg #[.int .i64 ar, .int .i64 su, .int .i64 sx, .int .i64 sy, .bool ed], .int .i64 lo, .int .i64 hi] w fun e w' => e = .returned (.bool true) ∧ Below w.heap.size w w' := by
  have cT := hide (fun W => toBlob_any ar su sx sy ed W)
  have cS := hide (fun W => specBlobGood_any ar su sx sy ed lo hi W)
  have cI := hide (fun W => blobGood_any ar su sx sy ed lo hi W)
  generalize goodB ar ed lo hi = g at *
  have A0 := sAt_new w [.int .i64 ar, .int .i64 su, .int .i64 sx, .int .i64 sy, .bool ed] 43
  have B0 := below1 w (.cells [.int .i64 ar, .int .i64 su, .int .i64 sx, .int .i64 sy, .bool ed].toArray 43)
  go_enter Try.func7, Try.ntmps7
  go_wp2_with fail
  generalize w.alloc (.cells #[.int .i64 ar, .int .i64 su, .int .i64 sx, .int .i64 sy, .bool ed] 43) = W1 at A0 B0 ⊢
  refine (unhide cT _).mono ?_
  rintro e W2 ⟨rfl, hx⟩
  have A1 := A0.kept hx
  have B1 := below_call B0 hx
  clear hx A0 B0
  go_wp2_with fail
  refine (unhide cS _).mono ?_
  rintro e W3 ⟨rfl, hx⟩
  have A2 := A1.kept hx
  have B2 := below_call B1 hx
  clear hx A1 B1
  obtain ⟨c0, c1, c2, c3, c4⟩ := A2.c5
  go_wp2_with fail
  refine (unhide cT _).mono ?_
  rintro e W4 ⟨rfl, hx⟩
  have B3 := below_call B2 hx
  clear hx A2 B2 c0 c1 c2 c3 c4
  go_wp2_with fail
  refine (unhide cI _).mono ?_
  rintro e W5 ⟨rfl, hx⟩
  have B4 := below_call B3 hx
  clear hx B3
  have hq := neq_bool_self g
  go_wp2_with fail
  go_ret
  exact ⟨rfl, B4⟩
set_option maxHeartbeats 1000000 in
set_option maxRecDepth 100000 in
theorem lawFrameRight (wd ht : Int) (s : ByteArray) (hs : s.size ≤ maxLen) (w : World) :
    Calls Try.prog 3 #[.agg #[.int .i64 wd, .int .i64 ht, .string s]] w fun e w' => e = .returned (.bool true) ∧ Below w.heap.size w w' := by
  have cZ := hide (fun W => szFrame_any wd ht s 1048576 W hs (by omega) (by omega))
  have cT := hide (fun W => toFrame_any wd ht s W)
  have cS := hide (fun W => specFrameRight_any wd ht s W)
  have cI := hide (fun W => frameRight_any wd ht s W)
  generalize frameB wd ht s = g at *
  generalize szI 1048576 s = z at *
  have A0 := sAt_new w [.int .i64 wd, .int .i64 ht, .string s] 23
  have B0 := below1 w (.cells [.int .i64 wd, .int .i64 ht, .string s].toArray 23)
  go_enter Try.func3, Try.ntmps3
  go_wp2_with fail
  generalize w.alloc (.cells #[.int .i64 wd, .int .i64 ht, .string s] 23) = W1 at A0 B0 ⊢
  refine (unhide cZ _).mono ?_
  rintro e W2 ⟨rfl, hx⟩
  have A1 := A0.kept hx
  have B1 := below_call B0 hx
  clear hx A0 B0
  obtain ⟨c0, c1, c2⟩ := A1.c3
  by_cases hz : z < 0
  · go_wp2_with fail
    go_ret
    exact ⟨rfl, B1⟩
  go_wp2_with fail
  refine (unhide cT _).mono ?_
  rintro e W3 ⟨rfl, hx⟩
  have A2 := A1.kept hx
  have B2 := below_call B1 hx
  clear hx A1 B1 c0 c1 c2
  go_wp2_with fail
  refine (unhide cS _).mono ?_
  rintro e W4 ⟨rfl, hx⟩
  have A3 := A2.kept hx
  have B3 := below_call B2 hx
  clear hx A2 B2
  obtain ⟨c0, c1, c2⟩ := A3.c3
  go_wp2_with fail
  refine (unhide cT _).mono ?_
  rintro e W5 ⟨rfl, hx⟩
  have B4 := below_call B3 hx
  clear hx A3 B3 c0 c1 c2
  go_wp2_with fail
  refine (unhide cI _).mono ?_
  rintro e W6 ⟨rfl, hx⟩
  have B5 := below_call B4 hx
  clear hx B4
  have hq := neq_bool_self g
  go_wp2_with fail
  go_ret
  exact ⟨rfl, B5⟩
end Go.Proofs.Yteelpcpkgmcmbaa
