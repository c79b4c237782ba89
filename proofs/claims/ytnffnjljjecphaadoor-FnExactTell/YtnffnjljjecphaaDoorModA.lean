/- A tracker in memory; whether it is right: the program's and the specification's. -/
import Derived.Test.YtnffnjljjecphaaDoorModM
import Derived.Test.YtnffnjljjecphaaDoorSkyG
import Derived.Test.YtnffnjljjecphaaDoorTurnG
namespace Go.Proofs.YtnffnjljjecphaaDoor
open Go.RowKit Go.Sort
set_option linter.unusedVariables false

/-- a tracker as a value, its list at a -/
def tkL (a : Option Addr) (c : Nat) (t : Tk) : List Value := [.slice a t.L.length c, .int .i64 t.lim, .int .i64 t.mode, .int .i64 t.A, .int .i64 t.B, .int .i64 t.C, .int .i64 t.D, .int .i64 t.coast, .int .i64 t.fr]
def TkAt (w : World) (b : Nat) (v : Value) (lim mode A B C D coast fr : Int) : Prop := w.cell? ⟨b, 0, none⟩ = some v ∧ w.cell? ⟨b, 1, none⟩ = some (.int .i64 lim) ∧ w.cell? ⟨b, 2, none⟩ = some (.int .i64 mode) ∧ w.cell? ⟨b, 3, none⟩ = some (.int .i64 A) ∧ w.cell? ⟨b, 4, none⟩ = some (.int .i64 B) ∧ w.cell? ⟨b, 5, none⟩ = some (.int .i64 C) ∧ w.cell? ⟨b, 6, none⟩ = some (.int .i64 D) ∧ w.cell? ⟨b, 7, none⟩ = some (.int .i64 coast) ∧ w.cell? ⟨b, 8, none⟩ = some (.int .i64 fr)
theorem cellK {w w' : World} {a : Addr} {v : Value} (h : w.cell? a = some v) (hB : Below w.heap.size w w') : w'.cell? a = some v := (hB.cell (World.block_lt_of_cell? w a h)).trans h
theorem TkAt.kept {w w' : World} {b : Nat} {v : Value} {lim mode A B C D coast fr : Int} (h : TkAt w b v lim mode A B C D coast fr) (hB : Below w.heap.size w w') : TkAt w' b v lim mode A B C D coast fr := by
  obtain ⟨h0, h1, h2, h3, h4, h5, h6, h7, h8⟩ := h
  exact ⟨cellK h0 hB, cellK h1 hB, cellK h2 hB, cellK h3 hB, cellK h4 hB, cellK h5 hB, cellK h6 hB, cellK h7 hB, cellK h8 hB⟩
theorem tkAt_new (w : World) (v : Value) (lim mode A B C D coast fr : Int) (t : TypeId) : TkAt (w.alloc (.cells #[v, .int .i64 lim, .int .i64 mode, .int .i64 A, .int .i64 B, .int .i64 C, .int .i64 D, .int .i64 coast, .int .i64 fr] t)) w.heap.size v lim mode A B C D coast fr := by
  refine ⟨?_, ?_, ?_, ?_, ?_, ?_, ?_, ?_, ?_⟩ <;> simp
theorem TkAt.lt {w : World} {b : Nat} {v : Value} {lim mode A B C D coast fr : Int} (h : TkAt w b v lim mode A B C D coast fr) : b < w.heap.size := World.block_lt_of_cell? w _ h.1

set_option maxHeartbeats 2000000 in
set_option maxRecDepth 100000 in
theorem implTrack_any (L : List St) (lim mode A B C D coast fr : Int) (a : Option Addr) (c : Nat) (p : Addr) (w : World) (hn : L.length ≤ 1048576) (hcap : L.length ≤ c) (hc9 : c ≤ 9223372036854775807) (hS : Stars w a L L.length) (hE : ErrSky p w) :
    Calls Tryd.prog 59 #[.agg #[.slice a L.length c, .int .i64 lim, .int .i64 mode, .int .i64 A, .int .i64 B, .int .i64 C, .int .i64 D, .int .i64 coast, .int .i64 fr]] w fun e w' => e = .returned (.bool (trackB ⟨L, lim, mode, A, B, C, D, coast, fr⟩)) ∧ Below w.heap.size w w' := by
  have B0 := below1 w (.cells #[.slice a L.length c, .int .i64 lim, .int .i64 mode, .int .i64 A, .int .i64 B, .int .i64 C, .int .i64 D, .int .i64 coast, .int .i64 fr] 53)
  have T0 := tkAt_new w (.slice a L.length c) lim mode A B C D coast fr 53
  have cS := hide (skyRight_any L a c p _ hn hcap hc9 (hS.kept B0) (hE.kept B0))
  have HB0 := hide B0
  have HT0 := hide T0
  clear B0 T0 hS hE hn hcap hc9
  go_enter Tryd.func59, Tryd.ntmps59
  go_wp2_with fail
  refine (unhide cS).mono ?_
  rintro e w1 ⟨rfl, hx⟩
  have T1 := hide ((unhide HT0).kept hx)
  have B1 := hide (below_call (unhide HB0) hx)
  clear hx cS HT0 HB0
  obtain ⟨c0, c1, c2, c3, c4, c5, c6, c7, c8⟩ := unhide T1
  cases hk : skyB L
  · have HO := hide (track_no1 (t := ⟨L, lim, mode, A, B, C, D, coast, fr⟩) hk)
    go_wp2_with fail
    go_ret
    exact ⟨by rw [unhide HO]; rfl, unhide B1⟩
  by_cases q1 : lim < 1
  · have HO := hide (track_no2 (t := ⟨L, lim, mode, A, B, C, D, coast, fr⟩) (span_low (by show ¬ 1 ≤ lim; omega)))
    go_wp2_with fail
    go_ret
    exact ⟨by rw [unhide HO]; rfl, unhide B1⟩
  by_cases q2 : (5 : Int) < lim
  · have HO := hide (track_no2 (t := ⟨L, lim, mode, A, B, C, D, coast, fr⟩) (span_high (by show ¬ lim ≤ 5; omega)))
    go_wp2_with fail
    go_ret
    exact ⟨by rw [unhide HO]; rfl, unhide B1⟩
  by_cases q3 : fr < 0
  · have HO := hide (track_no3 (t := ⟨L, lim, mode, A, B, C, D, coast, fr⟩) (span_low (by show ¬ 0 ≤ fr; omega)))
    go_wp2_with fail
    go_ret
    exact ⟨by rw [unhide HO]; rfl, unhide B1⟩
  by_cases q4 : (1000000 : Int) < fr
  · have HO := hide (track_no3 (t := ⟨L, lim, mode, A, B, C, D, coast, fr⟩) (span_high (by show ¬ fr ≤ 1000000; omega)))
    go_wp2_with fail
    go_ret
    exact ⟨by rw [unhide HO]; rfl, unhide B1⟩
  have HH := hide (track_head (t := ⟨L, lim, mode, A, B, C, D, coast, fr⟩) hk (span_yes (by show 1 ≤ lim; omega) (by show lim ≤ 5; omega)) (span_yes (by show 0 ≤ fr; omega) (by show fr ≤ 1000000; omega)))
  clear hk
  by_cases m0 : mode = 0
  · have HO : Hid (trackB ⟨L, lim, mode, A, B, C, D, coast, fr⟩ = (eqT A B C D 0 0 0 0 && decide (coast = 0))) := hide (by rw [unhide HH, mode_0 m0])
    have hq := fun W => eql_turn A B C D 0 0 0 0 W
    cases hz : eqT A B C D 0 0 0 0
    · rw [hz] at HO hq
      go_wp2_with fail
      go_ret
      exact ⟨by rw [unhide HO]; rfl, unhide B1⟩
    · rw [hz] at HO hq
      go_wp2_with fail
      go_ret
      exact ⟨by rw [unhide HO]; rfl, unhide B1⟩
  by_cases m1 : mode = 1
  · have HO : Hid (trackB ⟨L, lim, mode, A, B, C, D, coast, fr⟩ = (rightT A B C D && decide (coast = 0))) := hide (by rw [unhide HH, mode_1 m1])
    subst m1
    go_wp2_with fail
    refine (turnRight_any A B C D _).mono ?_
    rintro e w2 ⟨rfl, hx⟩
    have B2 := hide (below_call (unhide B1) hx)
    obtain ⟨d0, d1, d2, d3, d4, d5, d6, d7, d8⟩ := (unhide T1).kept hx
    clear hx c0 c1 c2 c3 c4 c5 c6 c7 c8
    cases hz : rightT A B C D
    · rw [hz] at HO
      go_wp2_with fail
      go_ret
      exact ⟨by rw [unhide HO]; rfl, unhide B2⟩
    · rw [hz] at HO
      go_wp2_with fail
      go_ret
      exact ⟨by rw [unhide HO]; rfl, unhide B2⟩
  by_cases m2 : mode = 2
  · have HO : Hid (trackB ⟨L, lim, mode, A, B, C, D, coast, fr⟩ = (rightT A B C D && spanB 1 lim coast)) := hide (by rw [unhide HH, mode_2 m2])
    subst m2
    go_wp2_with fail
    refine (turnRight_any A B C D _).mono ?_
    rintro e w2 ⟨rfl, hx⟩
    have B2 := hide (below_call (unhide B1) hx)
    obtain ⟨d0, d1, d2, d3, d4, d5, d6, d7, d8⟩ := (unhide T1).kept hx
    clear hx c0 c1 c2 c3 c4 c5 c6 c7 c8
    cases hz : rightT A B C D
    · rw [hz] at HO
      go_wp2_with fail
      go_ret
      exact ⟨by rw [unhide HO]; rfl, unhide B2⟩
    · rw [hz] at HO
      by_cases u1 : 1 ≤ coast
      · have HU : Hid (spanB 1 lim coast = decide (coast ≤ lim)) := hide (by unfold spanB; rw [decide_eq_true u1]; rfl)
        go_wp2_with fail
        go_ret
        exact ⟨by rw [unhide HO, unhide HU]; rfl, unhide B2⟩
      · have HU : Hid (spanB 1 lim coast = false) := hide (span_low u1)
        go_wp2_with fail
        go_ret
        exact ⟨by rw [unhide HO, unhide HU]; rfl, unhide B2⟩
  · have HO : Hid (trackB ⟨L, lim, mode, A, B, C, D, coast, fr⟩ = false) := hide (by rw [unhide HH, mode_n m0 m1 m2])
    go_wp2_with fail
    go_ret
    exact ⟨by rw [unhide HO]; rfl, unhide B1⟩
end Go.Proofs.YtnffnjljjecphaaDoor
