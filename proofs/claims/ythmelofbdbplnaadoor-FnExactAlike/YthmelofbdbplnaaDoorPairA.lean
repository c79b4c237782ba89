/- Two pairs held against each other: the specification's. -/
import Derived.Test.YthmelofbdbplnaaDoorSkyI
import Derived.Test.YthmelofbdbplnaaDoorVecK
namespace Go.Proofs.YthmelofbdbplnaaDoor
open Go.RowKit Go.Sort
set_option linter.unusedVariables false

abbrev V3 := Int × Int × Int
/-- what the specification's cosine comparison answers -/
def cosP (a b c d : V3) : Int := cosS (dotW a.1 a.2.1 a.2.2 b.1 b.2.1 b.2.2) (dotW c.1 c.2.1 c.2.2 d.1 d.2.1 d.2.2) (wrap64 (wrap64 (dotW a.1 a.2.1 a.2.2 b.1 b.2.1 b.2.2 * dotW a.1 a.2.1 a.2.2 b.1 b.2.1 b.2.2) * wrap64 (dotW c.1 c.2.1 c.2.2 c.1 c.2.1 c.2.2 * dotW d.1 d.2.1 d.2.2 d.1 d.2.1 d.2.2))) (wrap64 (wrap64 (dotW c.1 c.2.1 c.2.2 d.1 d.2.1 d.2.2 * dotW c.1 c.2.1 c.2.2 d.1 d.2.1 d.2.2) * wrap64 (dotW a.1 a.2.1 a.2.2 a.1 a.2.1 a.2.2 * dotW b.1 b.2.1 b.2.2 b.1 b.2.1 b.2.2)))
theorem cosP_any (a b c d : V3) (w : World) : Calls Tryd.prog 26 #[vecV a, vecV b, vecV c, vecV d] w fun e w' => e = .returned (.int .i64 (cosP a b c d)) ∧ Below w.heap.size w w' :=
  l02Cos_any a.1 a.2.1 a.2.2 b.1 b.2.1 b.2.2 c.1 c.2.1 c.2.2 d.1 d.2.1 d.2.2 w
def lessC (c : Int) (p1 p2 q1 q2 : Int) : Bool := if c = 0 then (decide (p1 < q1) || (decide (p1 = q1) && decide (p2 < q2))) else decide (c < 0)
def lessB (L : List St) (n : Nat) (p1 p2 q1 q2 : Int) : Bool := lessC (cosP (atV L n p1) (atV L n p2) (atV L n q1) (atV L n q2)) p1 p2 q1 q2
def PairAt (w : World) (b : Nat) (x y : Int) : Prop := w.cell? ⟨b, 0, none⟩ = some (.int .i64 x) ∧ w.cell? ⟨b, 1, none⟩ = some (.int .i64 y)
theorem PairAt.kept {w w' : World} {b : Nat} {x y : Int} (h : PairAt w b x y) (hB : Below w.heap.size w w') : PairAt w' b x y := by
  have hb := World.block_lt_of_cell? w _ h.1
  exact ⟨by rw [hB.cell (p := ⟨b, 0, none⟩) hb]; exact h.1, by rw [hB.cell (p := ⟨b, 1, none⟩) hb]; exact h.2⟩
theorem pairAt_new (w : World) (x y : Int) (t : TypeId) : PairAt (w.alloc (.cells #[.int .i64 x, .int .i64 y] t)) w.heap.size x y := by
  constructor <;> simp

set_option maxHeartbeats 2000000 in
set_option maxRecDepth 100000 in
theorem l04Less_any (L : List St) (n : Nat) (a : Option Addr) (c : Nat) (p1 p2 q1 q2 : Int) (w : World) (hn : n ≤ 1048576) (hS : Stars w a L n) :
    Calls Tryd.prog 35 #[.slice a n c, .agg #[.int .i64 p1, .int .i64 p2], .agg #[.int .i64 q1, .int .i64 q2]] w fun e w' => e = .returned (.bool (lessB L n p1 p2 q1 q2)) ∧ Below w.heap.size w w' := by
  have HL : Hid (lessB L n p1 p2 q1 q2 = lessC (cosP (atV L n p1) (atV L n p2) (atV L n q1) (atV L n q2)) p1 p2 q1 q2) := hide rfl
  have HC := hide (fun W => cosP_any (atV L n p1) (atV L n p2) (atV L n q1) (atV L n q2) W)
  have cA : Hid (∀ (id : Int) (W : World), Stars W a L n → Calls Tryd.prog 27 #[.slice a n c, .int .i64 id] W fun e w' => e = .returned (vecV (atV L n id)) ∧ Below W.heap.size W w') := hide (fun id W h => l04At_any L n id a c W hn h)
  generalize lessB L n p1 p2 q1 q2 = res at *
  generalize cosP (atV L n p1) (atV L n p2) (atV L n q1) (atV L n q2) = cc at *
  have c1 : Hid (∀ W : World, Stars W a L n → Calls Tryd.prog 27 #[.slice a n c, .int .i64 p1] W fun e w' => e = .returned (vecV (atV L n p1)) ∧ Below W.heap.size W w') := hide (unhide cA p1)
  have c2 : Hid (∀ W : World, Stars W a L n → Calls Tryd.prog 27 #[.slice a n c, .int .i64 p2] W fun e w' => e = .returned (vecV (atV L n p2)) ∧ Below W.heap.size W w') := hide (unhide cA p2)
  have c3 : Hid (∀ W : World, Stars W a L n → Calls Tryd.prog 27 #[.slice a n c, .int .i64 q1] W fun e w' => e = .returned (vecV (atV L n q1)) ∧ Below W.heap.size W w') := hide (unhide cA q1)
  have c4 : Hid (∀ W : World, Stars W a L n → Calls Tryd.prog 27 #[.slice a n c, .int .i64 q2] W fun e w' => e = .returned (vecV (atV L n q2)) ∧ Below W.heap.size W w') := hide (unhide cA q2)
  generalize vecV (atV L n p1) = x1 at *
  generalize vecV (atV L n p2) = x2 at *
  generalize vecV (atV L n q1) = x3 at *
  generalize vecV (atV L n q2) = x4 at *
  have B1 := hide (below2 w (.cells #[.int .i64 p1, .int .i64 p2] 50) (.cells #[.int .i64 q1, .int .i64 q2] 50))
  have P1 : Hid (PairAt ((w.alloc (.cells #[.int .i64 p1, .int .i64 p2] 50)).alloc (.cells #[.int .i64 q1, .int .i64 q2] 50)) w.heap.size p1 p2) := hide ((pairAt_new w _ _ _).kept (below1 _ _))
  have Q1 : Hid (PairAt ((w.alloc (.cells #[.int .i64 p1, .int .i64 p2] 50)).alloc (.cells #[.int .i64 q1, .int .i64 q2] 50)) (w.heap.size + 1) q1 q2) := hide (by simpa using pairAt_new (w.alloc (.cells #[.int .i64 p1, .int .i64 p2] 50)) q1 q2 50)
  have HS := hide (hS.kept (unhide B1))
  clear hS cA
  go_enter Tryd.func35, Tryd.ntmps35
  go_wp2_with fail
  generalize (w.alloc (.cells #[.int .i64 p1, .int .i64 p2] 50)).alloc (.cells #[.int .i64 q1, .int .i64 q2] 50) = W1 at *
  have c1' : Hid (∀ d os, Calls Tryd.prog 27 #[.slice a n c, .int .i64 p1] (grow (redrawn W1 d) os) fun e w' => e = .returned x1 ∧ Below (grow (redrawn W1 d) os).heap.size (grow (redrawn W1 d) os) w') := hide (fun d os => unhide c1 _ ((unhide HS).kept (below_regrown W1 d os)))
  have c2' : Hid (∀ d os, Calls Tryd.prog 27 #[.slice a n c, .int .i64 p2] (grow (redrawn W1 d) os) fun e w' => e = .returned x2 ∧ Below (grow (redrawn W1 d) os).heap.size (grow (redrawn W1 d) os) w') := hide (fun d os => unhide c2 _ ((unhide HS).kept (below_regrown W1 d os)))
  have c3' : Hid (∀ d os, Calls Tryd.prog 27 #[.slice a n c, .int .i64 q1] (grow (redrawn W1 d) os) fun e w' => e = .returned x3 ∧ Below (grow (redrawn W1 d) os).heap.size (grow (redrawn W1 d) os) w') := hide (fun d os => unhide c3 _ ((unhide HS).kept (below_regrown W1 d os)))
  have c4' : Hid (∀ d os, Calls Tryd.prog 27 #[.slice a n c, .int .i64 q2] (grow (redrawn W1 d) os) fun e w' => e = .returned x4 ∧ Below (grow (redrawn W1 d) os).heap.size (grow (redrawn W1 d) os) w') := hide (fun d os => unhide c4 _ ((unhide HS).kept (below_regrown W1 d os)))
  obtain ⟨v0, v1⟩ := unhide P1
  obtain ⟨u0, u1⟩ := unhide Q1
  have r0 := cell_regrown v0
  have r1 := cell_regrown v1
  have r2 := cell_regrown u0
  have r3 := cell_regrown u1
  clear c1 c2 c3 c4 v0 v1 u0 u1
  refine wp_region_quiet_below (by kernel_rfl) (by kernel_rfl) ?_
  repeat (go_big_quiet_step (first | (with_reducible exact Calls.regrown_of (unhide c1' _ _)) | (with_reducible exact Calls.regrown_of (unhide c2' _ _)) | (with_reducible exact Calls.regrown_of (unhide c3' _ _)) | (with_reducible exact Calls.regrown_of (unhide c4' _ _)) | (with_reducible exact Calls.regrown_of (unhide HC _))))
  refine wpQuiet_nil ?_
  intro _ hw'
  obtain ⟨⟨dq, osq⟩, hw''⟩ := hw'
  subst hw''
  have hx := hide (below_call (unhide B1) (below_regrown W1 dq osq))
  have s0 := r0 dq osq
  have s1 := r1 dq osq
  have s2 := r2 dq osq
  have s3 := r3 dq osq
  clear r0 r1 r2 r3 c1' c2' c3' c4' HC P1 Q1 HS B1
  by_cases hc : cc = 0
  · subst hc
    unfold lessC at HL
    rw [if_pos rfl] at HL
    by_cases h1 : p1 < q1
    · have HO : Hid (res = true) := hide (by rw [unhide HL]; simp [h1])
      go_wp2_with fail
      go_ret
      exact ⟨by rw [unhide HO]; rfl, unhide hx⟩
    · have h1' : decide (p1 < q1) = false := by simpa using h1
      by_cases h2 : p1 = q1
      · have h2' : (p1 == q1) = true := by simp [h2]
        by_cases h3 : p2 < q2
        · have HO : Hid (res = true) := hide (by rw [unhide HL]; simp [h2, h3])
          clear h2 h1
          go_wp2_with fail
          go_ret
          exact ⟨by rw [unhide HO]; rfl, unhide hx⟩
        · have h3' : decide (p2 < q2) = false := by simpa using h3
          have HO : Hid (res = false) := hide (by rw [unhide HL]; simp [h2, h3])
          clear h2 h1
          go_wp2_with fail
          go_ret
          exact ⟨by rw [unhide HO]; rfl, unhide hx⟩
      · have h2' : (p1 == q1) = false := by simp [h2]
        have HO : Hid (res = false) := hide (by rw [unhide HL]; simp [h1, h2])
        clear h2 h1
        go_wp2_with fail
        go_ret
        exact ⟨by rw [unhide HO]; rfl, unhide hx⟩
  · have hc' : (cc == 0) = false := by simp [hc]
    unfold lessC at HL
    rw [if_neg hc] at HL
    go_wp2_with fail
    go_ret
    exact ⟨by rw [unhide HL]; rfl, unhide hx⟩
end Go.Proofs.YthmelofbdbplnaaDoor
