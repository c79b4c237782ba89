/- The law's own helpers on lists of stars: as many, copied, held against each other. -/
import Derived.Test.YtjdehbpgdplolaaDoorSkyE
import Derived.OwnWalk
import Derived.Laws.OwnMore
namespace Go.Proofs.YtjdehbpgdplolaaDoor
open Go.RowKit Go.Sort
set_option linter.unusedVariables false

def FreeS (w : World) (b o : Nat) : Prop := w.frozen? ⟨b, o, none⟩ = false ∧ w.frozen? ⟨b, o + 1, none⟩ = false ∧ w.frozen? ⟨b, o + 2, none⟩ = false ∧ w.frozen? ⟨b, o + 3, none⟩ = false
theorem FreeS.kept {w w' : World} {b o : Nat} (h : FreeS w b o) (hb : b < w.heap.size) (hB : Below w.heap.size w w') : FreeS w' b o := by
  obtain ⟨h0, h1, h2, h3⟩ := h
  exact ⟨by rw [hB.frozen (p := ⟨b, o, none⟩) hb]; exact h0, by rw [hB.frozen (p := ⟨b, o + 1, none⟩) hb]; exact h1, by rw [hB.frozen (p := ⟨b, o + 2, none⟩) hb]; exact h2, by rw [hB.frozen (p := ⟨b, o + 3, none⟩) hb]; exact h3⟩
theorem freeS_new (w : World) (s : St) (t : TypeId) : FreeS (w.alloc (.cells #[.int .i64 s.1, .int .i64 s.2.1, .int .i64 s.2.2.1, .int .i64 s.2.2.2] t)) w.heap.size 0 := by
  refine ⟨?_, ?_, ?_, ?_⟩ <;> simp

set_option maxRecDepth 100000 in
theorem szStarS_any (a : Option Addr) (n c : Nat) (w : World) (hn : n ≤ 1048576) :
    Calls Tryd.prog 4 #[.slice a n c, .int .i64 1048576] w fun e w' => e = .returned (.int .i64 (1048576 - (n : Int))) ∧ w' = w := by
  have h : ¬ (1048576 : Int) - (n : Int) < 0 := by omega
  go_enter Tryd.func4, Tryd.ntmps4
  go_wp2
  go_ret
  exact ⟨rfl, rfl⟩
set_option maxRecDepth 100000 in
theorem szStarS_big (a : Option Addr) (n c : Nat) (w : World) (hn : 1048576 < n) (hm : n ≤ 9223372036854775807) :
    Calls Tryd.prog 4 #[.slice a n c, .int .i64 1048576] w fun e w' => e = .returned (.int .i64 (-1)) ∧ w' = w := by
  have h : (1048576 : Int) - (n : Int) < 0 := by omega
  go_enter Tryd.func4, Tryd.ntmps4
  go_wp2
  go_ret
  exact ⟨rfl, rfl⟩

set_option maxRecDepth 100000 in
theorem toVec_any (x y z : Int) (w : World) :
    Calls Tryd.prog 21 #[.agg #[.int .i64 x, .int .i64 y, .int .i64 z]] w fun e w' => e = .returned (.agg #[.int .i64 x, .int .i64 y, .int .i64 z]) ∧ Below w.heap.size w w' := by
  go_enter Tryd.func21, Tryd.ntmps21
  go_wp2
  exact bodyPost_ret (v := .agg #[.int .i64 x, .int .i64 y, .int .i64 z]) (by simp [results, Tryd.results21, go_sem]) rfl ⟨rfl, below3 _ _ _ _⟩
set_option maxRecDepth 100000 in
theorem toStar_any (i x y z : Int) (w : World) :
    Calls Tryd.prog 20 #[.agg #[.int .i64 i, .int .i64 x, .int .i64 y, .int .i64 z]] w fun e w' => e = .returned (.agg #[.int .i64 i, .int .i64 x, .int .i64 y, .int .i64 z]) ∧ Below w.heap.size w w' := by
  go_enter Tryd.func20, Tryd.ntmps20
  go_wp2_with fail
  refine (toVec_any x y z _).mono ?_
  rintro e w1 ⟨rfl, hx⟩
  have hB : Below w.heap.size w w1 := below_call (below3 _ _ _ _) hx
  have sa : StarAt w1 (w.heap.size + 1 + 1) 0 (i, 0, 0, 0) := (by simpa using starAt_new ((w.alloc _).alloc _) (i, 0, 0, 0) _ : StarAt _ (w.heap.size + 1 + 1) 0 (i, 0, 0, 0)).kept (by simp) hx
  have fa : FreeS w1 (w.heap.size + 1 + 1) 0 := (by simpa using freeS_new ((w.alloc _).alloc _) (i, 0, 0, 0) _ : FreeS _ (w.heap.size + 1 + 1) 0).kept (by simp) hx
  have sr : StarAt w1 (w.heap.size + 1) 0 (0, 0, 0, 0) := ((by simpa using starAt_new (w.alloc _) (0, 0, 0, 0) _ : StarAt _ (w.heap.size + 1) 0 (0, 0, 0, 0)).kept (by simp) (below1 _ _)).kept (by simp) hx
  have fr : FreeS w1 (w.heap.size + 1) 0 := ((by simpa using freeS_new (w.alloc _) (0, 0, 0, 0) _ : FreeS _ (w.heap.size + 1) 0).kept (by simp) (below1 _ _)).kept (by simp) hx
  clear hx
  obtain ⟨c0, c1, c2, c3⟩ := sa
  obtain ⟨f0, f1, f2, f3⟩ := fa
  obtain ⟨d0, d1, d2, d3⟩ := sr
  obtain ⟨g0, g1, g2, g3⟩ := fr
  simp only [Nat.zero_add] at c0 c1 c2 c3 f0 f1 f2 f3 d0 d1 d2 d3 g0 g1 g2 g3
  go_wp2_with fail
  exact bodyPost_ret (v := .agg #[.int .i64 i, .int .i64 x, .int .i64 y, .int .i64 z]) (by simp [results, Tryd.results20, go_sem, d0, d1, d2, d3]) rfl ⟨rfl, by
    repeat (refine Below.setCell ?_ (by simp; try omega) _)
    exact hB⟩
end Go.Proofs.YtjdehbpgdplolaaDoor
