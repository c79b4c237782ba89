/- Whether a tracker is right: the specification's. -/
import Derived.Test.YtnffnjljjecphaaDoorModA
namespace Go.Proofs.YtnffnjljjecphaaDoor
open Go.RowKit Go.Sort
set_option linter.unusedVariables false

theorem l02Span_any (n lo hi : Int) (w : World) :
    Calls Tryd.prog 29 #[.int .i64 n, .int .i64 lo, .int .i64 hi] w fun e w' => e = .returned (.bool (spanB lo hi n)) ∧ w' = w := l02Is_any n lo hi w
set_option maxRecDepth 100000 in
theorem l02Time_any (n : Int) (w : World) :
    Calls Tryd.prog 91 #[.int .i64 n] w fun e w' => e = .returned (.bool (spanB 0 1000000 n)) ∧ w' = w := by
  go_enter Tryd.func91, Tryd.ntmps91
  go_wp2_with fail
  refine (l02Span_any n 0 1000000 _).mono ?_
  rintro e w1 ⟨rfl, hw⟩
  rw [hw]
  go_wp2_with fail
  go_ret
  exact ⟨rfl, rfl⟩

set_option maxHeartbeats 2000000 in
set_option maxRecDepth 100000 in
theorem specTrack_any (L : List St) (lim mode A B C D coast fr : Int) (a : Option Addr) (c : Nat) (w : World) (hn : L.length ≤ 1048576) (hS : Stars w a L L.length) :
    Calls Tryd.prog 57 #[.agg #[.slice a L.length c, .int .i64 lim, .int .i64 mode, .int .i64 A, .int .i64 B, .int .i64 C, .int .i64 D, .int .i64 coast, .int .i64 fr]] w fun e w' => e = .returned (.bool (trackB ⟨L, lim, mode, A, B, C, D, coast, fr⟩)) ∧ Below w.heap.size w w' := by
  have B0 := below1 w (.cells #[.slice a L.length c, .int .i64 lim, .int .i64 mode, .int .i64 A, .int .i64 B, .int .i64 C, .int .i64 D, .int .i64 coast, .int .i64 fr] 53)
  have T0 := tkAt_new w (.slice a L.length c) lim mode A B C D coast fr 53
  have cS := hide (specSky_any L a c _ hn (hS.kept B0))
  have HB0 := hide B0
  have HT0 := hide T0
  clear B0 T0 hS hn
  go_enter Tryd.func57, Tryd.ntmps57
  go_wp2_with fail
  refine (unhide cS).mono ?_
  rintro e w1 ⟨rfl, hx⟩
  have T1 := hide ((unhide HT0).kept hx)
  have B1 := hide (below_call (unhide HB0) hx)
  clear hx cS HT0 HB0
  obtain ⟨c0, c1, c2, c3, c4, c5, c6, c7, c8⟩ := unhide T1
  have hlt := (unhide T1).lt
  cases hk : skyB L
  · have HO := hide (track_no1 (t := ⟨L, lim, mode, A, B, C, D, coast, fr⟩) hk)
    go_wp2_with fail
    go_ret
    exact ⟨by rw [unhide HO]; rfl, unhide B1⟩
  go_wp2_with fail
  refine (l02Span_any lim 1 5 _).mono ?_
  rintro e w2 ⟨rfl, hw⟩
  rw [hw]
  clear hw w2
  cases hl : spanB 1 5 lim
  · have HO := hide (track_no2 (t := ⟨L, lim, mode, A, B, C, D, coast, fr⟩) hl)
    go_wp2_with fail
    go_ret
    exact ⟨by rw [unhide HO]; rfl, unhide B1⟩
  go_wp2_with fail
  refine (l02Time_any fr _).mono ?_
  rintro e w2 ⟨rfl, hw⟩
  rw [hw]
  clear hw w2
  cases hf : spanB 0 1000000 fr
  · have HO := hide (track_no3 (t := ⟨L, lim, mode, A, B, C, D, coast, fr⟩) hf)
    go_wp2_with fail
    go_ret
    exact ⟨by rw [unhide HO]; rfl, unhide B1⟩
  have HH := hide (track_head (t := ⟨L, lim, mode, A, B, C, D, coast, fr⟩) hk hl hf)
  clear hk hl hf
  have Z := ((unhide B1).alloc (unhide B1).size (.cells #[.int .i64 0, .int .i64 0, .int .i64 0, .int .i64 0] 31))
  have T2 := hide ((unhide T1).kept (below1 w1 (.cells #[.int .i64 0, .int .i64 0, .int .i64 0, .int .i64 0] 31)))
  by_cases m0 : mode = 0
  · have HO : Hid (trackB ⟨L, lim, mode, A, B, C, D, coast, fr⟩ = (eqT A B C D 0 0 0 0 && decide (coast = 0))) := hide (by rw [unhide HH, mode_0 m0])
    have hq := fun W => eql_turn A B C D 0 0 0 0 W
    cases hz : eqT A B C D 0 0 0 0
    · rw [hz] at HO hq
      go_wp2_with fail
      go_ret
      exact ⟨by rw [unhide HO]; rfl, Z⟩
    · rw [hz] at HO hq
      go_wp2_with fail
      go_ret
      exact ⟨by rw [unhide HO]; rfl, Z⟩
  by_cases m1 : mode = 1
  · have HO : Hid (trackB ⟨L, lim, mode, A, B, C, D, coast, fr⟩ = (rightT A B C D && decide (coast = 0))) := hide (by rw [unhide HH, mode_1 m1])
    subst m1
    go_wp2_with fail
    refine (specTRight_any A B C D _).mono ?_
    rintro e w2 ⟨rfl, hx⟩
    have B2 := hide (below_call Z hx)
    obtain ⟨d0, d1, d2, d3, d4, d5, d6, d7, d8⟩ := (unhide T2).kept hx
    clear hx c0 c1 c2 c3 c4 c5 c6 c7 c8 Z
    cases hz : rightT A B C D
    · rw [hz] at HO
      go_wp2_with fail
      go_ret
      exact ⟨by rw [unhide HO]; rfl, unhide B2⟩
    · rw [hz] at HO
      go_wp2_with fail
      go_ret
      exact ⟨by rw [unhide HO]; rfl, unhide B2⟩
  by_cases m2 : mode = 2
  · have HO : Hid (trackB ⟨L, lim, mode, A, B, C, D, coast, fr⟩ = (rightT A B C D && spanB 1 lim coast)) := hide (by rw [unhide HH, mode_2 m2])
    subst m2
    go_wp2_with fail
    refine (specTRight_any A B C D _).mono ?_
    rintro e w2 ⟨rfl, hx⟩
    have B2 := hide (below_call Z hx)
    obtain ⟨d0, d1, d2, d3, d4, d5, d6, d7, d8⟩ := (unhide T2).kept hx
    clear hx c0 c1 c2 c3 c4 c5 c6 c7 c8 Z
    cases hz : rightT A B C D
    · rw [hz] at HO
      go_wp2_with fail
      go_ret
      exact ⟨by rw [unhide HO]; rfl, unhide B2⟩
    · rw [hz] at HO
      go_wp2_with fail
      refine (l02Span_any coast 1 lim _).mono ?_
      rintro e w3 ⟨rfl, hw⟩
      rw [hw]
      clear hw w3
      go_wp2_with fail
      go_ret
      exact ⟨by rw [unhide HO]; rfl, unhide B2⟩
  · have HO : Hid (trackB ⟨L, lim, mode, A, B, C, D, coast, fr⟩ = false) := hide (by rw [unhide HH, mode_n m0 m1 m2])
    go_wp2_with fail
    go_ret
    exact ⟨by rw [unhide HO]; rfl, Z⟩
end Go.Proofs.YtnffnjljjecphaaDoor
