/- Several texts in one: ModB. -/
import Derived.Test.YtgiodlllokdcdaaGreatDoorQFnFollowOwn10
namespace Go.Proofs.YtgiodlllokdcdaaGreatDoor
set_option linter.unusedVariables false
set_option linter.unusedSimpArgs false
set_option maxRecDepth 100000
set_option maxHeartbeats 8000000
section
open Go.RowKit Go.Sort
theorem ft (n lo hi : Int) (w : World) :
  Calls Tryz.prog 48 #[.int .i64 n, .int .i64 lo, .int .i64 hi] w fun e w' => e = .returned (.bool (de lo hi n)) ∧ w' = w := cH n lo hi w
theorem pF (n : Int) (w : World) :
  Calls Tryz.prog 50 #[.int .i64 n] w fun e w' => e = .returned (.bool (de 0 1000000 n)) ∧ w' = w := by
 go_enter Tryz.func50, Tryz.ntmps50
 go_wp2_with fail
 refine (ft n 0 1000000 _).mono ?_
 rintro e w1 ⟨rfl, hw⟩
 rw [hw]
 go_wp2_with fail
 go_ret
 exact ⟨rfl, rfl⟩
theorem fD (L : List St) (lim mode A B C D coast fr : Int) (a : Option Addr) (c : Nat) (w : World) (hn : L.length ≤ 1048576) (hS : aI w a L L.length) :
  Calls Tryz.prog 19 #[.agg #[.slice a L.length c, .int .i64 lim, .int .i64 mode, .int .i64 A, .int .i64 B, .int .i64 C, .int .i64 D, .int .i64 coast, .int .i64 fr]] w fun e w' => e = .returned (.bool (aS ⟨L, lim, mode, A, B, C, D, coast, fr⟩)) ∧ Below w.heap.size w w' := by
 have B0 := an w (.cells #[.slice a L.length c, .int .i64 lim, .int .i64 mode, .int .i64 A, .int .i64 B, .int .i64 C, .int .i64 D, .int .i64 coast, .int .i64 fr] 27)
 have T0 := dK w (.slice a L.length c) lim mode A B C D coast fr 27
 have cS := yz (eK L a c _ hn (hS.kept B0))
 have HB0 := yz B0
 have HT0 := yz T0
 clear B0 T0 hS hn
 go_enter Tryz.func19, Tryz.ntmps19
 go_wp2_with fail
 refine (yy cS).mono ?_
 rintro e w1 ⟨rfl, hx⟩
 have T1 := yz ((yy HT0).kept hx)
 have B1 := yz (aj (yy HB0) hx)
 clear hx cS HT0 HB0
 obtain ⟨c0, c1, c2, c3, c4, c5, c6, c7, c8⟩ := yy T1
 have hlt := (yy T1).lt
 cases hk : aP L
 ·have HO := yz (nE (t := ⟨L, lim, mode, A, B, C, D, coast, fr⟩) hk)
  go_wp2_with fail
  go_ret
  exact ⟨by rw [yy HO]; rfl, yy B1⟩
 go_wp2_with fail
 refine (ft lim 1 5 _).mono ?_
 rintro e w2 ⟨rfl, hw⟩
 rw [hw]
 clear hw w2
 cases hl : de 1 5 lim
 ·have HO := yz (jQ (t := ⟨L, lim, mode, A, B, C, D, coast, fr⟩) hl)
  go_wp2_with fail
  go_ret
  exact ⟨by rw [yy HO]; rfl, yy B1⟩
 go_wp2_with fail
 refine (pF fr _).mono ?_
 rintro e w2 ⟨rfl, hw⟩
 rw [hw]
 clear hw w2
 cases hf : de 0 1000000 fr
 ·have HO := yz (jR (t := ⟨L, lim, mode, A, B, C, D, coast, fr⟩) hf)
  go_wp2_with fail
  go_ret
  exact ⟨by rw [yy HO]; rfl, yy B1⟩
 have HH := yz (mr (t := ⟨L, lim, mode, A, B, C, D, coast, fr⟩) hk hl hf)
 clear hk hl hf
 have Z := ((yy B1).alloc (yy B1).size (.cells #[.int .i64 0, .int .i64 0, .int .i64 0, .int .i64 0] 25))
 have T2 := yz ((yy T1).kept (an w1 (.cells #[.int .i64 0, .int .i64 0, .int .i64 0, .int .i64 0] 25)))
 by_cases m0 : mode = 0
 ·have HO : Hid (aS ⟨L, lim, mode, A, B, C, D, coast, fr⟩ = (eqT A B C D 0 0 0 0 && decide (coast = 0))) := yz (by rw [yy HH, tZ m0])
  have hq := fun W => iY A B C D 0 0 0 0 W
  cases hz : eqT A B C D 0 0 0 0
  ·rw [hz] at HO hq
   go_wp2_with fail
   go_ret
   exact ⟨by rw [yy HO]; rfl, Z⟩
  ·rw [hz] at HO hq
   go_wp2_with fail
   go_ret
   exact ⟨by rw [yy HO]; rfl, Z⟩
 by_cases m1 : mode = 1
 ·have HO : Hid (aS ⟨L, lim, mode, A, B, C, D, coast, fr⟩ = (aB A B C D && decide (coast = 0))) := yz (by rw [yy HH, lK m1])
  subst m1
  go_wp2_with fail
  refine (aX A B C D _).mono ?_
  rintro e w2 ⟨rfl, hx⟩
  have B2 := yz (aj Z hx)
  obtain ⟨d0, d1, d2, d3, d4, d5, d6, d7, d8⟩ := (yy T2).kept hx
  clear hx c0 c1 c2 c3 c4 c5 c6 c7 c8 Z
  cases hz : aB A B C D
  ·rw [hz] at HO
   go_wp2_with fail
   go_ret
   exact ⟨by rw [yy HO]; rfl, yy B2⟩
  ·rw [hz] at HO
   go_wp2_with fail
   go_ret
   exact ⟨by rw [yy HO]; rfl, yy B2⟩
 by_cases m2 : mode = 2
 ·have HO : Hid (aS ⟨L, lim, mode, A, B, C, D, coast, fr⟩ = (aB A B C D && de 1 lim coast)) := yz (by rw [yy HH, lL m2])
  subst m2
  go_wp2_with fail
  refine (aX A B C D _).mono ?_
  rintro e w2 ⟨rfl, hx⟩
  have B2 := yz (aj Z hx)
  obtain ⟨d0, d1, d2, d3, d4, d5, d6, d7, d8⟩ := (yy T2).kept hx
  clear hx c0 c1 c2 c3 c4 c5 c6 c7 c8 Z
  cases hz : aB A B C D
  ·rw [hz] at HO
   go_wp2_with fail
   go_ret
   exact ⟨by rw [yy HO]; rfl, yy B2⟩
  ·rw [hz] at HO
   go_wp2_with fail
   refine (ft coast 1 lim _).mono ?_
   rintro e w3 ⟨rfl, hw⟩
   rw [hw]
   clear hw w3
   go_wp2_with fail
   go_ret
   exact ⟨by rw [yy HO]; rfl, yy B2⟩
 ·have HO : Hid (aS ⟨L, lim, mode, A, B, C, D, coast, fr⟩ = false) := yz (by rw [yy HH, ov m0 m1 m2])
  go_wp2_with fail
  go_ret
  exact ⟨by rw [yy HO]; rfl, Z⟩
end
end Go.Proofs.YtgiodlllokdcdaaGreatDoor
