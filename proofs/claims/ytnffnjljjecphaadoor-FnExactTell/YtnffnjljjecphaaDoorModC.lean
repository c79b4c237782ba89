/- What the laws on trackers do: measure, copy, compare, write over, find again. -/
import Derived.Test.YtnffnjljjecphaaDoorModA
import Derived.Test.YtnffnjljjecphaaDoorMarkS
namespace Go.Proofs.YtnffnjljjecphaaDoor
open Go.RowKit Go.Sort
set_option linter.unusedVariables false

set_option maxRecDepth 100000 in
theorem szTracker_any (a : Option Addr) (n c : Nat) (lim mode A B C D coast fr : Int) (w : World) (hn : n ≤ 1048576) :
    Calls Tryd.prog 19 #[.agg #[.slice a n c, .int .i64 lim, .int .i64 mode, .int .i64 A, .int .i64 B, .int .i64 C, .int .i64 D, .int .i64 coast, .int .i64 fr], .int .i64 1048576] w fun e w' => e = .returned (.int .i64 (1048576 - (n : Int))) ∧ Below w.heap.size w w' := by
  have h0 : ¬ (1048576 : Int) - (n : Int) < 0 := by omega
  go_enter Tryd.func19, Tryd.ntmps19
  go_wp2_with fail
  refine (szStarS_any a n c _ hn).mono ?_
  rintro e w1 ⟨rfl, hw⟩
  rw [hw]
  clear hw w1
  go_wp2_with fail
  go_ret
  exact ⟨rfl, below1 _ _⟩
set_option maxRecDepth 100000 in
theorem szTracker_big (a : Option Addr) (n c : Nat) (lim mode A B C D coast fr : Int) (w : World) (hn : 1048576 < n) (hm : n ≤ 9223372036854775807) :
    Calls Tryd.prog 19 #[.agg #[.slice a n c, .int .i64 lim, .int .i64 mode, .int .i64 A, .int .i64 B, .int .i64 C, .int .i64 D, .int .i64 coast, .int .i64 fr], .int .i64 1048576] w fun e w' => e = .returned (.int .i64 (-1)) ∧ Below w.heap.size w w' := by
  go_enter Tryd.func19, Tryd.ntmps19
  go_wp2_with fail
  refine (szStarS_big a n c _ hn hm).mono ?_
  rintro e w1 ⟨rfl, hw⟩
  rw [hw]
  clear hw w1
  go_wp2_with fail
  go_ret
  exact ⟨rfl, below1 _ _⟩
set_option maxRecDepth 100000 in
theorem toTurn_any' (p q r s : Int) (w : World) :
    Calls Tryd.prog 30 #[.agg #[.int .i64 p, .int .i64 q, .int .i64 r, .int .i64 s]] w fun e w' => e = .returned (.agg #[.int .i64 p, .int .i64 q, .int .i64 r, .int .i64 s]) ∧ Below w.heap.size w w' := by
  go_enter Tryd.func30, Tryd.ntmps30
  go_wp2
  exact bodyPost_ret (v := .agg #[.int .i64 p, .int .i64 q, .int .i64 r, .int .i64 s]) (by simp [results, Tryd.results30, go_sem]) rfl ⟨rfl, below3 _ _ _ _⟩
set_option maxRecDepth 100000 in
theorem eqTurn_same' (p q r s : Int) (w : World) :
    Calls Tryd.prog 35 #[.agg #[.int .i64 p, .int .i64 q, .int .i64 r, .int .i64 s], .agg #[.int .i64 p, .int .i64 q, .int .i64 r, .int .i64 s]] w fun e w' => e = .returned (.bool true) ∧ Below w.heap.size w w' := by
  go_enter Tryd.func35, Tryd.ntmps35
  go_wp2
  go_ret
  exact ⟨rfl, below2 _ _ _⟩
set_option maxHeartbeats 2000000 in
set_option maxRecDepth 100000 in
theorem eqTracker_same (L : List St) (n : Nat) (lim mode A B C D coast fr : Int) (a a' : Option Addr) (c c' : Nat) (w : World) (hn : n ≤ 1048576) (hS : Stars w a L n) (hS' : Stars w a' L n) :
    Calls Tryd.prog 23 #[.agg #[.slice a n c, .int .i64 lim, .int .i64 mode, .int .i64 A, .int .i64 B, .int .i64 C, .int .i64 D, .int .i64 coast, .int .i64 fr], .agg #[.slice a' n c', .int .i64 lim, .int .i64 mode, .int .i64 A, .int .i64 B, .int .i64 C, .int .i64 D, .int .i64 coast, .int .i64 fr]] w fun e w' => e = .returned (.bool true) ∧ Below w.heap.size w w' := by
  have B1 := hide (below2 w (.cells #[.slice a n c, .int .i64 lim, .int .i64 mode, .int .i64 A, .int .i64 B, .int .i64 C, .int .i64 D, .int .i64 coast, .int .i64 fr] 53) (.cells #[.slice a' n c', .int .i64 lim, .int .i64 mode, .int .i64 A, .int .i64 B, .int .i64 C, .int .i64 D, .int .i64 coast, .int .i64 fr] 53))
  have O1 : Hid (TkAt ((w.alloc (.cells #[.slice a n c, .int .i64 lim, .int .i64 mode, .int .i64 A, .int .i64 B, .int .i64 C, .int .i64 D, .int .i64 coast, .int .i64 fr] 53)).alloc (.cells #[.slice a' n c', .int .i64 lim, .int .i64 mode, .int .i64 A, .int .i64 B, .int .i64 C, .int .i64 D, .int .i64 coast, .int .i64 fr] 53)) w.heap.size (.slice a n c) lim mode A B C D coast fr) := hide ((tkAt_new w _ _ _ _ _ _ _ _ _ _).kept (below1 _ _))
  have O2 : Hid (TkAt ((w.alloc (.cells #[.slice a n c, .int .i64 lim, .int .i64 mode, .int .i64 A, .int .i64 B, .int .i64 C, .int .i64 D, .int .i64 coast, .int .i64 fr] 53)).alloc (.cells #[.slice a' n c', .int .i64 lim, .int .i64 mode, .int .i64 A, .int .i64 B, .int .i64 C, .int .i64 D, .int .i64 coast, .int .i64 fr] 53)) (w.heap.size + 1) (.slice a' n c') lim mode A B C D coast fr) := hide (by simpa using tkAt_new (w.alloc (.cells #[.slice a n c, .int .i64 lim, .int .i64 mode, .int .i64 A, .int .i64 B, .int .i64 C, .int .i64 D, .int .i64 coast, .int .i64 fr] 53)) (.slice a' n c') lim mode A B C D coast fr 53)
  have cE := hide (eqStarS_same L n a a' c c' _ hn (hS.kept (unhide B1)) (hS'.kept (unhide B1)))
  clear hS hS'
  go_enter Tryd.func23, Tryd.ntmps23
  go_wp2_with fail
  refine (unhide cE).mono ?_
  rintro e w1 ⟨rfl, hx⟩
  have P1 := hide ((unhide O1).kept hx)
  have P2 := hide ((unhide O2).kept hx)
  obtain ⟨p0, p1, p2, p3, p4, p5, p6, p7, p8⟩ := unhide P1
  obtain ⟨q0, q1, q2, q3, q4, q5, q6, q7, q8⟩ := unhide P2
  have B2 := hide (below_call (unhide B1) hx)
  clear hx B1 O1 O2 cE
  go_wp2_with fail
  clear p0 p1 p2 p3 p4 p5 p6 p7 p8 q0 q1 q2 q3 q4 q5 q6 q7 q8
  refine (eqTurn_same' A B C D _).mono ?_
  rintro e w2 ⟨rfl, hx⟩
  obtain ⟨p0, p1, p2, p3, p4, p5, p6, p7, p8⟩ := (unhide P1).kept hx
  obtain ⟨q0, q1, q2, q3, q4, q5, q6, q7, q8⟩ := (unhide P2).kept hx
  have B3 := hide (below_call (unhide B2) hx)
  clear hx B2 P1 P2
  go_wp2_with fail
  go_ret
  exact ⟨rfl, unhide B3⟩
end Go.Proofs.YtnffnjljjecphaaDoor
