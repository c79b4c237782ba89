/- Several texts in one: TurnO, TurnD, TurnE, TurnG, ModA, ModC, RowR, ModD. -/
import Derived.Deep.RegionHeld
import Derived.Deep.DeepCutAuto
import Derived.Test.YtjdehbpgdplolaaGreatDoorQLookOwn9
import Derived.Test.YtjdehbpgdplolaaGreatDoorQLookOwn16
import Derived.Test.YtjdehbpgdplolaaGreatDoorQLookOwn5
import Derived.Test.YtjdehbpgdplolaaGreatDoorQLookOwn8
namespace Go.Proofs.YtjdehbpgdplolaaGreatDoor
open Go.RowKit
set_option linter.unusedVariables false

def OutAt (w : World) (b : Nat) (p q r s k : Int) : Prop := w.cell? ⟨b, 0, none⟩ = some (.int .i64 p) ∧ w.cell? ⟨b, 1, none⟩ = some (.int .i64 q) ∧ w.cell? ⟨b, 2, none⟩ = some (.int .i64 r) ∧ w.cell? ⟨b, 3, none⟩ = some (.int .i64 s) ∧ w.cell? ⟨b, 4, none⟩ = some (.int .i64 k)
def FreeO (w : World) (b : Nat) : Prop := w.frozen? ⟨b, 0, none⟩ = false ∧ w.frozen? ⟨b, 1, none⟩ = false ∧ w.frozen? ⟨b, 2, none⟩ = false ∧ w.frozen? ⟨b, 3, none⟩ = false ∧ w.frozen? ⟨b, 4, none⟩ = false
theorem OutAt.lt {w : World} {b : Nat} {p q r s k : Int} (h : OutAt w b p q r s k) : b < w.heap.size := World.block_lt_of_cell? w _ h.1
theorem OutAt.kept {w w' : World} {b : Nat} {p q r s k : Int} (h : OutAt w b p q r s k) (hB : Below w.heap.size w w') : OutAt w' b p q r s k := by
  have hb := h.lt
  obtain ⟨h0, h1, h2, h3, h4⟩ := h
  exact ⟨by rw [hB.cell (p := ⟨b, 0, none⟩) hb]; exact h0, by rw [hB.cell (p := ⟨b, 1, none⟩) hb]; exact h1, by rw [hB.cell (p := ⟨b, 2, none⟩) hb]; exact h2, by rw [hB.cell (p := ⟨b, 3, none⟩) hb]; exact h3, by rw [hB.cell (p := ⟨b, 4, none⟩) hb]; exact h4⟩
theorem FreeO.kept {w w' : World} {b : Nat} (h : FreeO w b) (hb : b < w.heap.size) (hB : Below w.heap.size w w') : FreeO w' b := by
  obtain ⟨h0, h1, h2, h3, h4⟩ := h
  exact ⟨by rw [hB.frozen (p := ⟨b, 0, none⟩) hb]; exact h0, by rw [hB.frozen (p := ⟨b, 1, none⟩) hb]; exact h1, by rw [hB.frozen (p := ⟨b, 2, none⟩) hb]; exact h2, by rw [hB.frozen (p := ⟨b, 3, none⟩) hb]; exact h3, by rw [hB.frozen (p := ⟨b, 4, none⟩) hb]; exact h4⟩
theorem outAt_new (w : World) (p q r s k : Int) (t : TypeId) : OutAt (w.alloc (.cells #[.int .i64 p, .int .i64 q, .int .i64 r, .int .i64 s, .int .i64 k] t)) w.heap.size p q r s k := by
  refine ⟨?_, ?_, ?_, ?_, ?_⟩ <;> simp
theorem freeO_new (w : World) (p q r s k : Int) (t : TypeId) : FreeO (w.alloc (.cells #[.int .i64 p, .int .i64 q, .int .i64 r, .int .i64 s, .int .i64 k] t)) w.heap.size := by
  refine ⟨?_, ?_, ?_, ?_, ?_⟩ <;> simp
theorem OutAt.alloc {w : World} {b : Nat} {p q r s k : Int} (h : OutAt w b p q r s k) (o : Obj) : OutAt (w.alloc o) b p q r s k := h.kept (below1 _ _)
end Go.Proofs.YtjdehbpgdplolaaGreatDoor

namespace Go.Proofs.YtjdehbpgdplolaaGreatDoor
open Go.RowKit Go.Sort
set_option linter.unusedVariables false

theorem of_form {a b c d : Int} (h : (inT 1000 a b c d && !zeroT a b c d) = false) : Value.agg #[.int .i64 (ofP a b c d a), .int .i64 (ofP a b c d b), .int .i64 (ofP a b c d c), .int .i64 (ofP a b c d d), .int .i64 (ofC a b c d)] = Value.agg #[.int .i64 0, .int .i64 0, .int .i64 0, .int .i64 0, .int .i64 1] := by
  unfold ofP
  rw [ofC_form h]
  rfl
theorem of_full {a b c d : Int} (h1 : inT 1000 a b c d = true) (h2 : zeroT a b c d = false) (h : rightT (a.tdiv (sT a b c d)) (b.tdiv (sT a b c d)) (c.tdiv (sT a b c d)) (d.tdiv (sT a b c d)) = false) : Value.agg #[.int .i64 (ofP a b c d a), .int .i64 (ofP a b c d b), .int .i64 (ofP a b c d c), .int .i64 (ofP a b c d d), .int .i64 (ofC a b c d)] = Value.agg #[.int .i64 0, .int .i64 0, .int .i64 0, .int .i64 0, .int .i64 9] := by
  have e : ofC a b c d = 9 := by unfold ofC; rw [h1, h2, h]; rfl
  unfold ofP
  rw [e]
  rfl
theorem of_ok {a b c d : Int} (h1 : inT 1000 a b c d = true) (h2 : zeroT a b c d = false) (h : rightT (a.tdiv (sT a b c d)) (b.tdiv (sT a b c d)) (c.tdiv (sT a b c d)) (d.tdiv (sT a b c d)) = true) : Value.agg #[.int .i64 (ofP a b c d a), .int .i64 (ofP a b c d b), .int .i64 (ofP a b c d c), .int .i64 (ofP a b c d d), .int .i64 (ofC a b c d)] = Value.agg #[.int .i64 (a.tdiv (sT a b c d)), .int .i64 (b.tdiv (sT a b c d)), .int .i64 (c.tdiv (sT a b c d)), .int .i64 (d.tdiv (sT a b c d)), .int .i64 0] := by
  have e : ofC a b c d = 0 := by unfold ofC; rw [h1, h2, h]; rfl
  unfold ofP
  rw [e]
  rfl

end Go.Proofs.YtjdehbpgdplolaaGreatDoor

namespace Go.Proofs.YtjdehbpgdplolaaGreatDoor
open Go.RowKit Go.Sort
set_option linter.unusedVariables false

theorem wrapQ {a b c d : Int} (h : inT 1000 a b c d = true) (g : Int) (hg : g = sT a b c d) : wrap64 (a.tdiv g) = a.tdiv (sT a b c d) ∧ wrap64 (b.tdiv g) = b.tdiv (sT a b c d) ∧ wrap64 (c.tdiv g) = c.tdiv (sT a b c d) ∧ wrap64 (d.tdiv g) = d.tdiv (sT a b c d) := by
  subst hg
  obtain ⟨x1, x2, x3, x4⟩ := inT_iff.1 h
  have key : ∀ (x s : Int), -1000 ≤ x ∧ x ≤ 1000 → wrap64 (x.tdiv s) = x.tdiv s := fun x s hx => by have := tdiv_le (s := s) hx; exact wrap_id (by omega) (by omega)
  exact ⟨key _ _ x1, key _ _ x2, key _ _ x3, key _ _ x4⟩

end Go.Proofs.YtjdehbpgdplolaaGreatDoor

namespace Go.Proofs.YtjdehbpgdplolaaGreatDoor
open Go.RowKit Go.Sort
set_option linter.unusedVariables false

theorem co_form {s1 s2 s3 s4 t1 t2 t3 t4 : Int} (h : coR s1 s2 s3 s4 t1 t2 t3 t4 = false) : Value.agg #[.int .i64 (coP s1 s2 s3 s4 t1 t2 t3 t4 (coA s1 s2 s3 s4 t1 t2 t3 t4)), .int .i64 (coP s1 s2 s3 s4 t1 t2 t3 t4 (coB s1 s2 s3 s4 t1 t2 t3 t4)), .int .i64 (coP s1 s2 s3 s4 t1 t2 t3 t4 (coC s1 s2 s3 s4 t1 t2 t3 t4)), .int .i64 (coP s1 s2 s3 s4 t1 t2 t3 t4 (coD s1 s2 s3 s4 t1 t2 t3 t4)), .int .i64 (coK s1 s2 s3 s4 t1 t2 t3 t4)] = Value.agg #[.int .i64 0, .int .i64 0, .int .i64 0, .int .i64 0, .int .i64 1] := by
  unfold coP coK
  rw [h]; rfl
theorem co_ok {s1 s2 s3 s4 t1 t2 t3 t4 : Int} (h : coR s1 s2 s3 s4 t1 t2 t3 t4 = true) : Value.agg #[.int .i64 (coP s1 s2 s3 s4 t1 t2 t3 t4 (coA s1 s2 s3 s4 t1 t2 t3 t4)), .int .i64 (coP s1 s2 s3 s4 t1 t2 t3 t4 (coB s1 s2 s3 s4 t1 t2 t3 t4)), .int .i64 (coP s1 s2 s3 s4 t1 t2 t3 t4 (coC s1 s2 s3 s4 t1 t2 t3 t4)), .int .i64 (coP s1 s2 s3 s4 t1 t2 t3 t4 (coD s1 s2 s3 s4 t1 t2 t3 t4)), .int .i64 (coK s1 s2 s3 s4 t1 t2 t3 t4)] = Value.agg #[.int .i64 (ofP (coA s1 s2 s3 s4 t1 t2 t3 t4) (coB s1 s2 s3 s4 t1 t2 t3 t4) (coC s1 s2 s3 s4 t1 t2 t3 t4) (coD s1 s2 s3 s4 t1 t2 t3 t4) (coA s1 s2 s3 s4 t1 t2 t3 t4)), .int .i64 (ofP (coA s1 s2 s3 s4 t1 t2 t3 t4) (coB s1 s2 s3 s4 t1 t2 t3 t4) (coC s1 s2 s3 s4 t1 t2 t3 t4) (coD s1 s2 s3 s4 t1 t2 t3 t4) (coB s1 s2 s3 s4 t1 t2 t3 t4)), .int .i64 (ofP (coA s1 s2 s3 s4 t1 t2 t3 t4) (coB s1 s2 s3 s4 t1 t2 t3 t4) (coC s1 s2 s3 s4 t1 t2 t3 t4) (coD s1 s2 s3 s4 t1 t2 t3 t4) (coC s1 s2 s3 s4 t1 t2 t3 t4)), .int .i64 (ofP (coA s1 s2 s3 s4 t1 t2 t3 t4) (coB s1 s2 s3 s4 t1 t2 t3 t4) (coC s1 s2 s3 s4 t1 t2 t3 t4) (coD s1 s2 s3 s4 t1 t2 t3 t4) (coD s1 s2 s3 s4 t1 t2 t3 t4)), .int .i64 (ofC (coA s1 s2 s3 s4 t1 t2 t3 t4) (coB s1 s2 s3 s4 t1 t2 t3 t4) (coC s1 s2 s3 s4 t1 t2 t3 t4) (coD s1 s2 s3 s4 t1 t2 t3 t4))] := by
  unfold coP coK
  rw [h]; rfl

theorem bk_none {a b c d : Int} (h : rightT a b c d = false) : Value.agg #[.int .i64 (bkP a b c d a), .int .i64 (bkP a b c d (-b)), .int .i64 (bkP a b c d (-c)), .int .i64 (bkP a b c d (-d))] = Value.agg #[.int .i64 0, .int .i64 0, .int .i64 0, .int .i64 0] := by
  unfold bkP
  rw [h]; rfl
theorem bk_some {a b c d : Int} (h : rightT a b c d = true) : Value.agg #[.int .i64 (bkP a b c d a), .int .i64 (bkP a b c d (-b)), .int .i64 (bkP a b c d (-c)), .int .i64 (bkP a b c d (-d))] = Value.agg #[.int .i64 (ofP a (-b) (-c) (-d) a), .int .i64 (ofP a (-b) (-c) (-d) (-b)), .int .i64 (ofP a (-b) (-c) (-d) (-c)), .int .i64 (ofP a (-b) (-c) (-d) (-d))] := by
  unfold bkP
  rw [h]; rfl
theorem field_turn (p q r s k : Int) (W : World) : (Instr.field 82 (.agg #[.int .i64 p, .int .i64 q, .int .i64 r, .int .i64 s, .int .i64 k]) 0).run Tryz.prog W = .ok (.agg #[.int .i64 p, .int .i64 q, .int .i64 r, .int .i64 s]) W := by kernel_rfl
theorem neg_fits {m x : Int} (h : -m ≤ x ∧ x ≤ m) (hm : m ≤ 1000000) : wrap64 (-x) = -x := wrap_id (by omega) (by omega)

end Go.Proofs.YtjdehbpgdplolaaGreatDoor

namespace Go.Proofs.YtjdehbpgdplolaaGreatDoor
open Go.RowKit Go.Sort
set_option linter.unusedVariables false

/-- a tracker as a value, its list at a -/
def tkL (a : Option Addr) (c : Nat) (t : Tk) : List Value := [.slice a t.L.length c, .int .i64 t.lim, .int .i64 t.mode, .int .i64 t.A, .int .i64 t.B, .int .i64 t.C, .int .i64 t.D, .int .i64 t.coast, .int .i64 t.fr]
def TkAt (w : World) (b : Nat) (v : Value) (lim mode A B C D coast fr : Int) : Prop := w.cell? ⟨b, 0, none⟩ = some v ∧ w.cell? ⟨b, 1, none⟩ = some (.int .i64 lim) ∧ w.cell? ⟨b, 2, none⟩ = some (.int .i64 mode) ∧ w.cell? ⟨b, 3, none⟩ = some (.int .i64 A) ∧ w.cell? ⟨b, 4, none⟩ = some (.int .i64 B) ∧ w.cell? ⟨b, 5, none⟩ = some (.int .i64 C) ∧ w.cell? ⟨b, 6, none⟩ = some (.int .i64 D) ∧ w.cell? ⟨b, 7, none⟩ = some (.int .i64 coast) ∧ w.cell? ⟨b, 8, none⟩ = some (.int .i64 fr)
theorem cellK {w w' : World} {a : Addr} {v : Value} (h : w.cell? a = some v) (hB : Below w.heap.size w w') : w'.cell? a = some v := (hB.cell (World.block_lt_of_cell? w a h)).trans h
theorem TkAt.kept {w w' : World} {b : Nat} {v : Value} {lim mode A B C D coast fr : Int} (h : TkAt w b v lim mode A B C D coast fr) (hB : Below w.heap.size w w') : TkAt w' b v lim mode A B C D coast fr := by
  obtain ⟨h0, h1, h2, h3, h4, h5, h6, h7, h8⟩ := h
  exact ⟨cellK h0 hB, cellK h1 hB, cellK h2 hB, cellK h3 hB, cellK h4 hB, cellK h5 hB, cellK h6 hB, cellK h7 hB, cellK h8 hB⟩
theorem tkAt_new (w : World) (v : Value) (lim mode A B C D coast fr : Int) (t : TypeId) : TkAt (w.alloc (.cells #[v, .int .i64 lim, .int .i64 mode, .int .i64 A, .int .i64 B, .int .i64 C, .int .i64 D, .int .i64 coast, .int .i64 fr] t)) w.heap.size v lim mode A B C D coast fr := by
  refine ⟨?_, ?_, ?_, ?_, ?_, ?_, ?_, ?_, ?_⟩ <;> simp
theorem TkAt.lt {w : World} {b : Nat} {v : Value} {lim mode A B C D coast fr : Int} (h : TkAt w b v lim mode A B C D coast fr) : b < w.heap.size := World.block_lt_of_cell? w _ h.1

set_option maxHeartbeats 2000000 in
set_option maxRecDepth 100000 in
theorem implTrack_any (L : List St) (lim mode A B C D coast fr : Int) (a : Option Addr) (c : Nat) (p : Addr) (w : World) (hn : L.length ≤ 1048576) (hcap : L.length ≤ c) (hc9 : c ≤ 9223372036854775807) (hS : Stars w a L L.length) (hE : ErrSky p w) :
    Calls Tryz.prog 25 #[.agg #[.slice a L.length c, .int .i64 lim, .int .i64 mode, .int .i64 A, .int .i64 B, .int .i64 C, .int .i64 D, .int .i64 coast, .int .i64 fr]] w fun e w' => e = .returned (.bool (trackB ⟨L, lim, mode, A, B, C, D, coast, fr⟩)) ∧ Below w.heap.size w w' := by
  have B0 := below1 w (.cells #[.slice a L.length c, .int .i64 lim, .int .i64 mode, .int .i64 A, .int .i64 B, .int .i64 C, .int .i64 D, .int .i64 coast, .int .i64 fr] 33)
  have T0 := tkAt_new w (.slice a L.length c) lim mode A B C D coast fr 33
  have cS := hide (skyRight_any L a c p _ hn hcap hc9 (hS.kept B0) (hE.kept B0))
  have HB0 := hide B0
  have HT0 := hide T0
  clear B0 T0 hS hE hn hcap hc9
  go_enter Tryz.func25, Tryz.ntmps25
  go_wp2_with fail
  refine (unhide cS).mono ?_
  rintro e w1 ⟨rfl, hx⟩
  have T1 := hide ((unhide HT0).kept hx)
  have B1 := hide (below_call (unhide HB0) hx)
  clear hx cS HT0 HB0
  obtain ⟨c0, c1, c2, c3, c4, c5, c6, c7, c8⟩ := unhide T1
  cases hk : skyB L
  · have HO := hide (track_no1 (t := ⟨L, lim, mode, A, B, C, D, coast, fr⟩) hk)
    go_wp2_with fail
    go_ret
    exact ⟨by rw [unhide HO]; rfl, unhide B1⟩
  by_cases q1 : lim < 1
  · have HO := hide (track_no2 (t := ⟨L, lim, mode, A, B, C, D, coast, fr⟩) (span_low (by show ¬ 1 ≤ lim; omega)))
    go_wp2_with fail
    go_ret
    exact ⟨by rw [unhide HO]; rfl, unhide B1⟩
  by_cases q2 : (5 : Int) < lim
  · have HO := hide (track_no2 (t := ⟨L, lim, mode, A, B, C, D, coast, fr⟩) (span_high (by show ¬ lim ≤ 5; omega)))
    go_wp2_with fail
    go_ret
    exact ⟨by rw [unhide HO]; rfl, unhide B1⟩
  by_cases q3 : fr < 0
  · have HO := hide (track_no3 (t := ⟨L, lim, mode, A, B, C, D, coast, fr⟩) (span_low (by show ¬ 0 ≤ fr; omega)))
    go_wp2_with fail
    go_ret
    exact ⟨by rw [unhide HO]; rfl, unhide B1⟩
  by_cases q4 : (1000000 : Int) < fr
  · have HO := hide (track_no3 (t := ⟨L, lim, mode, A, B, C, D, coast, fr⟩) (span_high (by show ¬ fr ≤ 1000000; omega)))
    go_wp2_with fail
    go_ret
    exact ⟨by rw [unhide HO]; rfl, unhide B1⟩
  have HH := hide (track_head (t := ⟨L, lim, mode, A, B, C, D, coast, fr⟩) hk (span_yes (by show 1 ≤ lim; omega) (by show lim ≤ 5; omega)) (span_yes (by show 0 ≤ fr; omega) (by show fr ≤ 1000000; omega)))
  clear hk
  by_cases m0 : mode = 0
  · have HO : Hid (trackB ⟨L, lim, mode, A, B, C, D, coast, fr⟩ = (eqT A B C D 0 0 0 0 && decide (coast = 0))) := hide (by rw [unhide HH, mode_0 m0])
    have hq := fun W => eql_turn A B C D 0 0 0 0 W
    cases hz : eqT A B C D 0 0 0 0
    · rw [hz] at HO hq
      go_wp2_with fail
      go_ret
      exact ⟨by rw [unhide HO]; rfl, unhide B1⟩
    · rw [hz] at HO hq
      go_wp2_with fail
      go_ret
      exact ⟨by rw [unhide HO]; rfl, unhide B1⟩
  by_cases m1 : mode = 1
  · have HO : Hid (trackB ⟨L, lim, mode, A, B, C, D, coast, fr⟩ = (rightT A B C D && decide (coast = 0))) := hide (by rw [unhide HH, mode_1 m1])
    subst m1
    go_wp2_with fail
    refine (turnRight_any A B C D _).mono ?_
    rintro e w2 ⟨rfl, hx⟩
    have B2 := hide (below_call (unhide B1) hx)
    obtain ⟨d0, d1, d2, d3, d4, d5, d6, d7, d8⟩ := (unhide T1).kept hx
    clear hx c0 c1 c2 c3 c4 c5 c6 c7 c8
    cases hz : rightT A B C D
    · rw [hz] at HO
      go_wp2_with fail
      go_ret
      exact ⟨by rw [unhide HO]; rfl, unhide B2⟩
    · rw [hz] at HO
      go_wp2_with fail
      go_ret
      exact ⟨by rw [unhide HO]; rfl, unhide B2⟩
  by_cases m2 : mode = 2
  · have HO : Hid (trackB ⟨L, lim, mode, A, B, C, D, coast, fr⟩ = (rightT A B C D && spanB 1 lim coast)) := hide (by rw [unhide HH, mode_2 m2])
    subst m2
    go_wp2_with fail
    refine (turnRight_any A B C D _).mono ?_
    rintro e w2 ⟨rfl, hx⟩
    have B2 := hide (below_call (unhide B1) hx)
    obtain ⟨d0, d1, d2, d3, d4, d5, d6, d7, d8⟩ := (unhide T1).kept hx
    clear hx c0 c1 c2 c3 c4 c5 c6 c7 c8
    cases hz : rightT A B C D
    · rw [hz] at HO
      go_wp2_with fail
      go_ret
      exact ⟨by rw [unhide HO]; rfl, unhide B2⟩
    · rw [hz] at HO
      by_cases u1 : 1 ≤ coast
      · have HU : Hid (spanB 1 lim coast = decide (coast ≤ lim)) := hide (by unfold spanB; rw [decide_eq_true u1]; rfl)
        go_wp2_with fail
        go_ret
        exact ⟨by rw [unhide HO, unhide HU]; rfl, unhide B2⟩
      · have HU : Hid (spanB 1 lim coast = false) := hide (span_low u1)
        go_wp2_with fail
        go_ret
        exact ⟨by rw [unhide HO, unhide HU]; rfl, unhide B2⟩
  · have HO : Hid (trackB ⟨L, lim, mode, A, B, C, D, coast, fr⟩ = false) := hide (by rw [unhide HH, mode_n m0 m1 m2])
    go_wp2_with fail
    go_ret
    exact ⟨by rw [unhide HO]; rfl, unhide B1⟩
end Go.Proofs.YtjdehbpgdplolaaGreatDoor

namespace Go.Proofs.YtjdehbpgdplolaaGreatDoor
open Go.RowKit Go.Sort
set_option linter.unusedVariables false

set_option maxRecDepth 100000 in
theorem szTracker_any (a : Option Addr) (n c : Nat) (lim mode A B C D coast fr : Int) (w : World) (hn : n ≤ 1048576) :
    Calls Tryz.prog 4 #[.agg #[.slice a n c, .int .i64 lim, .int .i64 mode, .int .i64 A, .int .i64 B, .int .i64 C, .int .i64 D, .int .i64 coast, .int .i64 fr], .int .i64 1048576] w fun e w' => e = .returned (.int .i64 (1048576 - (n : Int))) ∧ Below w.heap.size w w' := by
  have h0 : ¬ (1048576 : Int) - (n : Int) < 0 := by omega
  go_enter Tryz.func4, Tryz.ntmps4
  go_wp2_with fail
  refine (szStarS_any a n c _ hn).mono ?_
  rintro e w1 ⟨rfl, hw⟩
  rw [hw]
  clear hw w1
  go_wp2_with fail
  go_ret
  exact ⟨rfl, below1 _ _⟩
set_option maxRecDepth 100000 in
theorem szTracker_big (a : Option Addr) (n c : Nat) (lim mode A B C D coast fr : Int) (w : World) (hn : 1048576 < n) (hm : n ≤ 9223372036854775807) :
    Calls Tryz.prog 4 #[.agg #[.slice a n c, .int .i64 lim, .int .i64 mode, .int .i64 A, .int .i64 B, .int .i64 C, .int .i64 D, .int .i64 coast, .int .i64 fr], .int .i64 1048576] w fun e w' => e = .returned (.int .i64 (-1)) ∧ Below w.heap.size w w' := by
  go_enter Tryz.func4, Tryz.ntmps4
  go_wp2_with fail
  refine (szStarS_big a n c _ hn hm).mono ?_
  rintro e w1 ⟨rfl, hw⟩
  rw [hw]
  clear hw w1
  go_wp2_with fail
  go_ret
  exact ⟨rfl, below1 _ _⟩
set_option maxRecDepth 100000 in
theorem toTurn_any' (p q r s : Int) (w : World) :
    Calls Tryz.prog 23 #[.agg #[.int .i64 p, .int .i64 q, .int .i64 r, .int .i64 s]] w fun e w' => e = .returned (.agg #[.int .i64 p, .int .i64 q, .int .i64 r, .int .i64 s]) ∧ Below w.heap.size w w' := by
  go_enter Tryz.func23, Tryz.ntmps23
  go_wp2
  exact bodyPost_ret (v := .agg #[.int .i64 p, .int .i64 q, .int .i64 r, .int .i64 s]) (by simp [results, Tryz.results23, go_sem]) rfl ⟨rfl, below3 _ _ _ _⟩
set_option maxRecDepth 100000 in
theorem eqTurn_same' (p q r s : Int) (w : World) :
    Calls Tryz.prog 31 #[.agg #[.int .i64 p, .int .i64 q, .int .i64 r, .int .i64 s], .agg #[.int .i64 p, .int .i64 q, .int .i64 r, .int .i64 s]] w fun e w' => e = .returned (.bool true) ∧ Below w.heap.size w w' := by
  go_enter Tryz.func31, Tryz.ntmps31
  go_wp2
  go_ret
  exact ⟨rfl, below2 _ _ _⟩
set_option maxHeartbeats 2000000 in
set_option maxRecDepth 100000 in
theorem eqTracker_same (L : List St) (n : Nat) (lim mode A B C D coast fr : Int) (a a' : Option Addr) (c c' : Nat) (w : World) (hn : n ≤ 1048576) (hS : Stars w a L n) (hS' : Stars w a' L n) :
    Calls Tryz.prog 11 #[.agg #[.slice a n c, .int .i64 lim, .int .i64 mode, .int .i64 A, .int .i64 B, .int .i64 C, .int .i64 D, .int .i64 coast, .int .i64 fr], .agg #[.slice a' n c', .int .i64 lim, .int .i64 mode, .int .i64 A, .int .i64 B, .int .i64 C, .int .i64 D, .int .i64 coast, .int .i64 fr]] w fun e w' => e = .returned (.bool true) ∧ Below w.heap.size w w' := by
  have B1 := hide (below2 w (.cells #[.slice a n c, .int .i64 lim, .int .i64 mode, .int .i64 A, .int .i64 B, .int .i64 C, .int .i64 D, .int .i64 coast, .int .i64 fr] 33) (.cells #[.slice a' n c', .int .i64 lim, .int .i64 mode, .int .i64 A, .int .i64 B, .int .i64 C, .int .i64 D, .int .i64 coast, .int .i64 fr] 33))
  have O1 : Hid (TkAt ((w.alloc (.cells #[.slice a n c, .int .i64 lim, .int .i64 mode, .int .i64 A, .int .i64 B, .int .i64 C, .int .i64 D, .int .i64 coast, .int .i64 fr] 33)).alloc (.cells #[.slice a' n c', .int .i64 lim, .int .i64 mode, .int .i64 A, .int .i64 B, .int .i64 C, .int .i64 D, .int .i64 coast, .int .i64 fr] 33)) w.heap.size (.slice a n c) lim mode A B C D coast fr) := hide ((tkAt_new w _ _ _ _ _ _ _ _ _ _).kept (below1 _ _))
  have O2 : Hid (TkAt ((w.alloc (.cells #[.slice a n c, .int .i64 lim, .int .i64 mode, .int .i64 A, .int .i64 B, .int .i64 C, .int .i64 D, .int .i64 coast, .int .i64 fr] 33)).alloc (.cells #[.slice a' n c', .int .i64 lim, .int .i64 mode, .int .i64 A, .int .i64 B, .int .i64 C, .int .i64 D, .int .i64 coast, .int .i64 fr] 33)) (w.heap.size + 1) (.slice a' n c') lim mode A B C D coast fr) := hide (by simpa using tkAt_new (w.alloc (.cells #[.slice a n c, .int .i64 lim, .int .i64 mode, .int .i64 A, .int .i64 B, .int .i64 C, .int .i64 D, .int .i64 coast, .int .i64 fr] 33)) (.slice a' n c') lim mode A B C D coast fr 33)
  have cE := hide (eqStarS_same L n a a' c c' _ hn (hS.kept (unhide B1)) (hS'.kept (unhide B1)))
  clear hS hS'
  go_enter Tryz.func11, Tryz.ntmps11
  go_wp2_with fail
  refine (unhide cE).mono ?_
  rintro e w1 ⟨rfl, hx⟩
  have P1 := hide ((unhide O1).kept hx)
  have P2 := hide ((unhide O2).kept hx)
  obtain ⟨p0, p1, p2, p3, p4, p5, p6, p7, p8⟩ := unhide P1
  obtain ⟨q0, q1, q2, q3, q4, q5, q6, q7, q8⟩ := unhide P2
  have B2 := hide (below_call (unhide B1) hx)
  clear hx B1 O1 O2 cE
  go_wp2_with fail
  clear p0 p1 p2 p3 p4 p5 p6 p7 p8 q0 q1 q2 q3 q4 q5 q6 q7 q8
  refine (eqTurn_same' A B C D _).mono ?_
  rintro e w2 ⟨rfl, hx⟩
  obtain ⟨p0, p1, p2, p3, p4, p5, p6, p7, p8⟩ := (unhide P1).kept hx
  obtain ⟨q0, q1, q2, q3, q4, q5, q6, q7, q8⟩ := (unhide P2).kept hx
  have B3 := hide (below_call (unhide B2) hx)
  clear hx B2 P1 P2
  go_wp2_with fail
  go_ret
  exact ⟨rfl, unhide B3⟩
end Go.Proofs.YtjdehbpgdplolaaGreatDoor

namespace Go.Proofs.YtjdehbpgdplolaaGreatDoor
open Go.RowKit Go.Sort
set_option linter.unusedVariables false

def OwnR (w : World) (a : Option Addr) (n : Nat) (row : Option Nat) : Prop := (n = 0 ∧ row = none) ∨ ∃ g f, a = some ⟨g, 0, none⟩ ∧ row = some g ∧ RowAt w 85 g (n * 4) f
def Mkd (w : World) (a : Option Addr) (n : Nat) (row : Option Nat) : Prop := (n = 0 ∧ row = none) ∨ ∃ g, a = some ⟨g, 0, none⟩ ∧ row = some g ∧ RowAt w 85 g (n * 4) (fun j => 1 + (j : Int))
theorem OwnR.kept {w w' : World} {a : Option Addr} {n : Nat} {row : Option Nat} (h : OwnR w a n row) (hB : Below w.heap.size w w') : OwnR w' a n row := by
  rcases h with h | ⟨g, f, h1, h2, h3⟩
  · exact .inl h
  · exact .inr ⟨g, f, h1, h2, h3.kept hB⟩
theorem Mkd.kept {w w' : World} {a : Option Addr} {n : Nat} {row : Option Nat} (h : Mkd w a n row) (hB : Below w.heap.size w w') : Mkd w' a n row := by
  rcases h with h | ⟨g, h1, h2, h3⟩
  · exact .inl h
  · exact .inr ⟨g, h1, h2, h3.kept hB⟩
theorem OwnR.lt {w : World} {a : Option Addr} {n : Nat} {row : Option Nat} (h : OwnR w a n row) {g : Nat} (e : row = some g) : g < w.heap.size := by
  rcases h with ⟨_, h⟩ | ⟨g', f, h1, h2, h3⟩
  · rw [h] at e; cases e
  · rw [h2] at e; obtain rfl := Option.some.inj e; exact h3.lt
theorem belowR {B : Nat} {w w1 w2 : World} {row : Option Nat} (h : Below B w w1) (hg : w1.grownBy w2 row) (hB : B ≤ w1.heap.size) (hr : ∀ g, row = some g → B ≤ g) : Below B w w2 :=
  h.trans ⟨hg.os, hg.tape, hg.output, hg.size, fun k hk => hg.block k (by omega) (fun e => by have := hr k e.symm; omega)⟩
def flatSt (L : List St) : List Value := L.flatMap stC
theorem flatSt_len (L : List St) : (flatSt L).length = L.length * 4 := by
  unfold flatSt
  induction L with
  | nil => rfl
  | cons x l ih => simp [List.flatMap_cons, stC] at *; omega
theorem flatSt_at (L : List St) : ∀ (i : Nat), i < L.length → (flatSt L)[i * 4]? = some (.int .i64 (stA L i).1) ∧ (flatSt L)[i * 4 + 1]? = some (.int .i64 (stA L i).2.1) ∧ (flatSt L)[i * 4 + 2]? = some (.int .i64 (stA L i).2.2.1) ∧ (flatSt L)[i * 4 + 3]? = some (.int .i64 (stA L i).2.2.2) := by
  induction L with
  | nil => intro i hi; simp at hi
  | cons x l ih =>
    intro i hi
    match i with
    | 0 => exact ⟨rfl, rfl, rfl, rfl⟩
    | i + 1 =>
      have h := ih i (by simpa using hi)
      have e : ∀ r, (flatSt (x :: l))[(i + 1) * 4 + r]? = (flatSt l)[i * 4 + r]? := fun r => by
        rw [show (i + 1) * 4 + r = (i * 4 + r) + 4 by omega]
        rfl
      have e2 : stA (x :: l) (i + 1) = stA l i := rfl
      rw [e2]
      exact ⟨by have := e 0; simp only [Nat.add_zero] at this; rw [this]; exact h.1, by rw [e 1]; exact h.2.1, by rw [e 2]; exact h.2.2.1, by rw [e 3]; exact h.2.2.2⟩
/-- a row that is owned holds its stars -/
theorem own_stars {w : World} {B : Nat} {v : Value} {L : List St} (h : w.ownsRow B 85 4 v L.length (flatSt L)) : ∃ a cap, v = .slice a L.length cap ∧ L.length ≤ cap ∧ cap ≤ maxLen ∧ Stars w a L L.length := by
  rcases h.2 with ⟨h1, h0⟩ | ⟨g, cap, cur, hv, hb, hg, hnc, hcm, hcs, htake⟩
  · exact ⟨none, 0, by rw [h1, h0], by omega, Nat.zero_le _, .inl h0⟩
  · refine ⟨_, cap, hv, hnc, hcm, .inr ⟨g, 0, rfl, (Array.getElem?_eq_some_iff.1 hg).1, fun i hi => ?_⟩⟩
    have hc : ∀ j, j < L.length * 4 → w.cell? ⟨g, j, none⟩ = (flatSt L)[j]? := fun j hj => by
      rw [cell_of_row w g j cur _ _ hg, ← htake, List.getElem?_take, if_pos hj]
      simp
    obtain ⟨e0, e1, e2, e3⟩ := flatSt_at L i hi
    rw [Nat.zero_add]
    exact ⟨by rw [hc _ (by omega)]; exact e0, by rw [hc _ (by omega)]; exact e1, by rw [hc _ (by omega)]; exact e2, by rw [hc _ (by omega)]; exact e3⟩
theorem flatSt_int (L : List St) (j : Nat) (hj : j < L.length * 4) : ∃ z, (flatSt L)[j]? = some (.int .i64 z) := by
  obtain ⟨e0, e1, e2, e3⟩ := flatSt_at L (j / 4) (by omega)
  have h : j = j / 4 * 4 ∨ j = j / 4 * 4 + 1 ∨ j = j / 4 * 4 + 2 ∨ j = j / 4 * 4 + 3 := by omega
  rcases h with h | h | h | h
  · rw [h]; exact ⟨_, e0⟩
  · rw [h]; exact ⟨_, e1⟩
  · rw [h]; exact ⟨_, e2⟩
  · rw [h]; exact ⟨_, e3⟩
theorem own_row {w : World} {B : Nat} {v : Value} {L : List St} {a : Option Addr} {cap : Nat} (h : w.ownsRow B 85 4 v L.length (flatSt L)) (hv : v = .slice a L.length cap) : ∃ row, OwnR w a L.length row ∧ ∀ g, row = some g → B ≤ g := by
  rcases h.2 with ⟨h1, h0⟩ | ⟨g, cap', cur, hv', hb, hg, hnc, hcm, hcs, htake⟩
  · exact ⟨none, .inl ⟨h0, rfl⟩, fun g e => by cases e⟩
  · rw [hv] at hv'
    injection hv' with e1 e2 e3
    refine ⟨some g, .inr ⟨g, fun j => if h : j < L.length * 4 then Classical.choose (flatSt_int L j h) else 0, e1, rfl, cur, hg, fun j hj => ?_⟩, fun g' e => by obtain rfl := Option.some.inj e; exact hb⟩
    have e4 : cur[j]? = (flatSt L)[j]? := by
      rw [← htake, List.getElem?_take, if_pos hj]
      simp
    rw [e4]
    simp only [hj, dif_pos]
    exact Classical.choose_spec (flatSt_int L j hj)
end Go.Proofs.YtjdehbpgdplolaaGreatDoor

namespace Go.Proofs.YtjdehbpgdplolaaGreatDoor
open Go.RowKit Go.Sort
set_option linter.unusedVariables false

def FreeK (w : World) (b : Nat) : Prop := ∀ i, w.frozen? ⟨b, i, none⟩ = false
theorem FreeK.kept {w w' : World} {b : Nat} (h : FreeK w b) (hb : b < w.heap.size) (hB : Below w.heap.size w w') : FreeK w' b := fun i => (hB.frozen (p := ⟨b, i, none⟩) hb).trans (h i)
theorem freeK_new (w : World) (cs : Array Value) (t : TypeId) : FreeK (w.alloc (.cells cs t)) w.heap.size := fun i => by simp
theorem FreeK.set {w : World} {b : Nat} (h : FreeK w b) (p : Addr) (v : Value) : FreeK (w.setCell p v) b := fun i => by rw [World.frozen?_setCell]; exact h i
theorem OwnS.far {w : World} {b n k : Nat} {L : List St} (h : OwnS w b n L k) {b' : Nat} (hne : b ≠ b') (o : Nat) (x : Value) : OwnS (w.setCell ⟨b', o, none⟩ x) b n L k := by
  obtain ⟨cur, hc, r⟩ := h
  exact ⟨cur, by rw [Below.heap_setCell w ⟨b', o, none⟩ x b hne]; exact hc, r⟩
theorem TkAt.far {w : World} {b : Nat} {v : Value} {lim mode A B C D coast fr : Int} (h : TkAt w b v lim mode A B C D coast fr) {b' : Nat} (hne : b ≠ b') (o : Nat) (x : Value) : TkAt (w.setCell ⟨b', o, none⟩ x) b v lim mode A B C D coast fr := by
  obtain ⟨h0, h1, h2, h3, h4, h5, h6, h7, h8⟩ := h
  refine ⟨?_, ?_, ?_, ?_, ?_, ?_, ?_, ?_, ?_⟩ <;> (rw [World.cell?_setCell_far _ _ _ _ (Ne.symm hne)]; assumption)
theorem tkAt_set3 {w : World} {b : Nat} {u : Value} {lim0 mode0 A B C D coast fr : Int} (h : TkAt w b u lim0 mode0 A B C D coast fr) (v : Value) (lim mode : Int) : TkAt (((w.setCell ⟨b, 0, none⟩ v).setCell ⟨b, 1, none⟩ (.int .i64 lim)).setCell ⟨b, 2, none⟩ (.int .i64 mode)) b v lim mode A B C D coast fr := by
  obtain ⟨h0, h1, h2, h3, h4, h5, h6, h7, h8⟩ := h
  refine ⟨?_, ?_, ?_, ?_, ?_, ?_, ?_, ?_, ?_⟩ <;> simp [go_sem, h0, h1, h2, h3, h4, h5, h6, h7, h8]
theorem tkAt_set9 {w : World} {b : Nat} {u : Value} {lim0 mode0 A0 B0 C0 D0 coast0 fr0 : Int} (h : TkAt w b u lim0 mode0 A0 B0 C0 D0 coast0 fr0) (v : Value) (lim mode A B C D coast fr : Int) : TkAt (((((((((w.setCell ⟨b, 0, none⟩ v).setCell ⟨b, 1, none⟩ (.int .i64 lim)).setCell ⟨b, 2, none⟩ (.int .i64 mode)).setCell ⟨b, 3, none⟩ (.int .i64 A)).setCell ⟨b, 4, none⟩ (.int .i64 B)).setCell ⟨b, 5, none⟩ (.int .i64 C)).setCell ⟨b, 6, none⟩ (.int .i64 D)).setCell ⟨b, 7, none⟩ (.int .i64 coast)).setCell ⟨b, 8, none⟩ (.int .i64 fr)) b v lim mode A B C D coast fr := by
  obtain ⟨h0, h1, h2, h3, h4, h5, h6, h7, h8⟩ := h
  refine ⟨?_, ?_, ?_, ?_, ?_, ?_, ?_, ?_, ?_⟩ <;> simp [go_sem, h0, h1, h2, h3, h4, h5, h6, h7, h8]
theorem res_toTracker (T : Array Value) (X : World) (b : Nat) (v : Value) (lim mode A B C D coast fr : Int) (hT : T.getD 2 undef = .pointer (some ⟨b, 0, none⟩)) (h : TkAt X b v lim mode A B C D coast fr) : (results Tryz.f7 T).run Tryz.prog X = .ok (.agg #[v, .int .i64 lim, .int .i64 mode, .int .i64 A, .int .i64 B, .int .i64 C, .int .i64 D, .int .i64 coast, .int .i64 fr]) X := by
  obtain ⟨h0, h1, h2, h3, h4, h5, h6, h7, h8⟩ := h
  simp only [Array.getD_eq_getD_getElem?] at hT
  simp [results, Tryz.results7, go_sem, hT, h0, h1, h2, h3, h4, h5, h6, h7, h8]
theorem belowSet {B : Nat} {w w1 : World} (h : Below B w w1) {b : Nat} (hb : B ≤ b) (o : Nat) (v : Value) : Below B w (w1.setCell ⟨b, o, none⟩ v) := h.setCell hb v

set_option maxHeartbeats 4000000 in
set_option maxRecDepth 100000 in
theorem toTracker_any (L : List St) (lim mode A B C D coast fr : Int) (a : Option Addr) (c : Nat) (w : World) (hn : L.length ≤ 1048576) (hS : Stars w a L L.length) :
    Calls Tryz.prog 7 #[.agg #[.slice a L.length c, .int .i64 lim, .int .i64 mode, .int .i64 A, .int .i64 B, .int .i64 C, .int .i64 D, .int .i64 coast, .int .i64 fr]] w fun e w' => ∃ b, e = .returned (.agg #[.slice (some ⟨b, 0, none⟩) L.length L.length, .int .i64 lim, .int .i64 mode, .int .i64 A, .int .i64 B, .int .i64 C, .int .i64 D, .int .i64 coast, .int .i64 fr]) ∧ OwnS w' b L.length L L.length ∧ w.heap.size ≤ b ∧ Below w.heap.size w w' := by
  have B0 := below3 w (.cells #[.slice a L.length c, .int .i64 lim, .int .i64 mode, .int .i64 A, .int .i64 B, .int .i64 C, .int .i64 D, .int .i64 coast, .int .i64 fr] 26) (.cells #[.slice none 0 0, .int .i64 0, .int .i64 0, .int .i64 0, .int .i64 0, .int .i64 0, .int .i64 0, .int .i64 0, .int .i64 0] 33) (.cells #[.slice none 0 0, .int .i64 0, .int .i64 0, .int .i64 0, .int .i64 0, .int .i64 0, .int .i64 0, .int .i64 0, .int .i64 0] 33)
  have S0 := tkAt_new w (.slice a L.length c) lim mode A B C D coast fr 26
  have S0' := (S0.kept (below1 _ (.cells #[.slice none 0 0, .int .i64 0, .int .i64 0, .int .i64 0, .int .i64 0, .int .i64 0, .int .i64 0, .int .i64 0, .int .i64 0] 33))).kept (below1 _ (.cells #[.slice none 0 0, .int .i64 0, .int .i64 0, .int .i64 0, .int .i64 0, .int .i64 0, .int .i64 0, .int .i64 0, .int .i64 0] 33))
  have R0 := (by simpa using tkAt_new (w.alloc (.cells #[.slice a L.length c, .int .i64 lim, .int .i64 mode, .int .i64 A, .int .i64 B, .int .i64 C, .int .i64 D, .int .i64 coast, .int .i64 fr] 26)) (.slice none 0 0) 0 0 0 0 0 0 0 0 33 : TkAt ((w.alloc (.cells #[.slice a L.length c, .int .i64 lim, .int .i64 mode, .int .i64 A, .int .i64 B, .int .i64 C, .int .i64 D, .int .i64 coast, .int .i64 fr] 26)).alloc (.cells #[.slice none 0 0, .int .i64 0, .int .i64 0, .int .i64 0, .int .i64 0, .int .i64 0, .int .i64 0, .int .i64 0, .int .i64 0] 33)) (w.heap.size + 1) (.slice none 0 0) 0 0 0 0 0 0 0 0)
  have R0' := R0.kept (below1 _ (.cells #[.slice none 0 0, .int .i64 0, .int .i64 0, .int .i64 0, .int .i64 0, .int .i64 0, .int .i64 0, .int .i64 0, .int .i64 0] 33))
  have U0 := (by simpa using tkAt_new ((w.alloc (.cells #[.slice a L.length c, .int .i64 lim, .int .i64 mode, .int .i64 A, .int .i64 B, .int .i64 C, .int .i64 D, .int .i64 coast, .int .i64 fr] 26)).alloc (.cells #[.slice none 0 0, .int .i64 0, .int .i64 0, .int .i64 0, .int .i64 0, .int .i64 0, .int .i64 0, .int .i64 0, .int .i64 0] 33)) (.slice none 0 0) 0 0 0 0 0 0 0 0 33 : TkAt (((w.alloc (.cells #[.slice a L.length c, .int .i64 lim, .int .i64 mode, .int .i64 A, .int .i64 B, .int .i64 C, .int .i64 D, .int .i64 coast, .int .i64 fr] 26)).alloc (.cells #[.slice none 0 0, .int .i64 0, .int .i64 0, .int .i64 0, .int .i64 0, .int .i64 0, .int .i64 0, .int .i64 0, .int .i64 0] 33)).alloc (.cells #[.slice none 0 0, .int .i64 0, .int .i64 0, .int .i64 0, .int .i64 0, .int .i64 0, .int .i64 0, .int .i64 0, .int .i64 0] 33)) (w.heap.size + 1 + 1) (.slice none 0 0) 0 0 0 0 0 0 0 0)
  have F1 := (by simpa using freeK_new (w.alloc (.cells #[.slice a L.length c, .int .i64 lim, .int .i64 mode, .int .i64 A, .int .i64 B, .int .i64 C, .int .i64 D, .int .i64 coast, .int .i64 fr] 26)) #[.slice none 0 0, .int .i64 0, .int .i64 0, .int .i64 0, .int .i64 0, .int .i64 0, .int .i64 0, .int .i64 0, .int .i64 0] 33 : FreeK ((w.alloc (.cells #[.slice a L.length c, .int .i64 lim, .int .i64 mode, .int .i64 A, .int .i64 B, .int .i64 C, .int .i64 D, .int .i64 coast, .int .i64 fr] 26)).alloc (.cells #[.slice none 0 0, .int .i64 0, .int .i64 0, .int .i64 0, .int .i64 0, .int .i64 0, .int .i64 0, .int .i64 0, .int .i64 0] 33)) (w.heap.size + 1))
  have F1' := F1.kept (by simp) (below1 _ (.cells #[.slice none 0 0, .int .i64 0, .int .i64 0, .int .i64 0, .int .i64 0, .int .i64 0, .int .i64 0, .int .i64 0, .int .i64 0] 33))
  have F2 := (by simpa using freeK_new ((w.alloc (.cells #[.slice a L.length c, .int .i64 lim, .int .i64 mode, .int .i64 A, .int .i64 B, .int .i64 C, .int .i64 D, .int .i64 coast, .int .i64 fr] 26)).alloc (.cells #[.slice none 0 0, .int .i64 0, .int .i64 0, .int .i64 0, .int .i64 0, .int .i64 0, .int .i64 0, .int .i64 0, .int .i64 0] 33)) #[.slice none 0 0, .int .i64 0, .int .i64 0, .int .i64 0, .int .i64 0, .int .i64 0, .int .i64 0, .int .i64 0, .int .i64 0] 33 : FreeK (((w.alloc (.cells #[.slice a L.length c, .int .i64 lim, .int .i64 mode, .int .i64 A, .int .i64 B, .int .i64 C, .int .i64 D, .int .i64 coast, .int .i64 fr] 26)).alloc (.cells #[.slice none 0 0, .int .i64 0, .int .i64 0, .int .i64 0, .int .i64 0, .int .i64 0, .int .i64 0, .int .i64 0, .int .i64 0] 33)).alloc (.cells #[.slice none 0 0, .int .i64 0, .int .i64 0, .int .i64 0, .int .i64 0, .int .i64 0, .int .i64 0, .int .i64 0, .int .i64 0] 33)) (w.heap.size + 1 + 1))
  have cT := hide (toStarS_any L a c _ hn (hS.kept B0))
  have HB := hide B0
  have HS := hide S0'
  have HR := hide R0'
  have HU := hide U0
  have HF := hide F1'
  have HG := hide F2
  clear B0 S0 S0' R0 R0' U0 F1 F1' F2 hS
  go_enter Tryz.func7, Tryz.ntmps7
  go_wp2_with fail
  refine (unhide cT).mono ?_
  rintro e w1 ⟨rfl, ho, hx⟩
  have O1 := hide ho
  have S1 := hide ((unhide HS).kept hx)
  have R1 := hide ((unhide HR).kept hx)
  have U1 := hide ((unhide HU).kept hx)
  have F1 := hide ((unhide HF).kept (unhide HR).lt hx)
  have G1 := hide ((unhide HG).kept (unhide HU).lt hx)
  have B1 := hide (below_call (unhide HB) hx)
  have hb : (((w.alloc (.cells #[.slice a L.length c, .int .i64 lim, .int .i64 mode, .int .i64 A, .int .i64 B, .int .i64 C, .int .i64 D, .int .i64 coast, .int .i64 fr] 26)).alloc (.cells #[.slice none 0 0, .int .i64 0, .int .i64 0, .int .i64 0, .int .i64 0, .int .i64 0, .int .i64 0, .int .i64 0, .int .i64 0] 33)).alloc (.cells #[.slice none 0 0, .int .i64 0, .int .i64 0, .int .i64 0, .int .i64 0, .int .i64 0, .int .i64 0, .int .i64 0, .int .i64 0] 33)).heap.size = w.heap.size + 1 + 1 + 1 := by simp
  rw [hb] at O1 ⊢
  clear hb ho hx HB HS HR HU HF HG cT
  obtain ⟨s0, s1, s2, s3, s4, s5, s6, s7, s8⟩ := unhide S1
  obtain ⟨u0, u1, u2, u3, u4, u5, u6, u7, u8⟩ := unhide U1
  have g0 := unhide G1 0
  have g1 := unhide G1 1
  have g2 := unhide G1 2
  go_wp2_with fail
  clear s0 s1 s2 s3 s4 s5 s6 s7 s8 u0 u1 u2 u3 u4 u5 u6 u7 u8 g0 g1 g2
  refine (toTurn_any' A B C D _).mono ?_
  rintro e w2 ⟨rfl, hx⟩
  have Y1 := belowSet (belowSet (belowSet (unhide B1) (b := w.heap.size + 1 + 1) (by omega) 0 (.slice (some ⟨w.heap.size + 1 + 1 + 1, 0, none⟩) L.length L.length)) (b := w.heap.size + 1 + 1) (by omega) 1 (.int .i64 lim)) (b := w.heap.size + 1 + 1) (by omega) 2 (.int .i64 mode)
  have S2 := ((((unhide S1).far (b' := w.heap.size + 1 + 1) (by omega) 0 (.slice (some ⟨w.heap.size + 1 + 1 + 1, 0, none⟩) L.length L.length)).far (b' := w.heap.size + 1 + 1) (by omega) 1 (.int .i64 lim)).far (b' := w.heap.size + 1 + 1) (by omega) 2 (.int .i64 mode)).kept hx
  have R2 := ((((unhide R1).far (b' := w.heap.size + 1 + 1) (by omega) 0 (.slice (some ⟨w.heap.size + 1 + 1 + 1, 0, none⟩) L.length L.length)).far (b' := w.heap.size + 1 + 1) (by omega) 1 (.int .i64 lim)).far (b' := w.heap.size + 1 + 1) (by omega) 2 (.int .i64 mode))
  have U2 := tkAt_set3 (unhide U1) (.slice (some ⟨w.heap.size + 1 + 1 + 1, 0, none⟩) L.length L.length) lim mode
  have G2 := hide (((((unhide G1).set ⟨w.heap.size + 1 + 1, 0, none⟩ (.slice (some ⟨w.heap.size + 1 + 1 + 1, 0, none⟩) L.length L.length)).set ⟨w.heap.size + 1 + 1, 1, none⟩ (.int .i64 lim)).set ⟨w.heap.size + 1 + 1, 2, none⟩ (.int .i64 mode)).kept U2.lt hx)
  have F2 := hide (((((unhide F1).set ⟨w.heap.size + 1 + 1, 0, none⟩ (.slice (some ⟨w.heap.size + 1 + 1 + 1, 0, none⟩) L.length L.length)).set ⟨w.heap.size + 1 + 1, 1, none⟩ (.int .i64 lim)).set ⟨w.heap.size + 1 + 1, 2, none⟩ (.int .i64 mode)).kept R2.lt hx)
  have O2 := hide (((((unhide O1).far (b' := w.heap.size + 1 + 1) (by omega) 0 (.slice (some ⟨w.heap.size + 1 + 1 + 1, 0, none⟩) L.length L.length)).far (b' := w.heap.size + 1 + 1) (by omega) 1 (.int .i64 lim)).far (b' := w.heap.size + 1 + 1) (by omega) 2 (.int .i64 mode)).kept hx)
  have B2 := hide (below_call Y1 hx)
  obtain ⟨s0, s1, s2, s3, s4, s5, s6, s7, s8⟩ := S2
  obtain ⟨u0, u1, u2, u3, u4, u5, u6, u7, u8⟩ := U2.kept hx
  have R3 := hide (R2.kept hx)
  obtain ⟨r0, r1, r2, r3, r4, r5, r6, r7, r8⟩ := unhide R3
  have g3 := unhide G2 3
  have g4 := unhide G2 4
  have g5 := unhide G2 5
  have g6 := unhide G2 6
  have g7 := unhide G2 7
  have g8 := unhide G2 8
  have f0 := unhide F2 0
  have f1 := unhide F2 1
  have f2 := unhide F2 2
  have f3 := unhide F2 3
  have f4 := unhide F2 4
  have f5 := unhide F2 5
  have f6 := unhide F2 6
  have f7 := unhide F2 7
  have f8 := unhide F2 8
  clear hx Y1 U2 R2 S1 R1 U1 F1 G1 B1 O1 G2 F2
  go_wp2_with fail
  refine bodyPost_ret (v := .agg #[.slice (some ⟨w.heap.size + 1 + 1 + 1, 0, none⟩) L.length L.length, .int .i64 lim, .int .i64 mode, .int .i64 A, .int .i64 B, .int .i64 C, .int .i64 D, .int .i64 coast, .int .i64 fr]) ?_ rfl ?_
  · refine res_toTracker _ _ (w.heap.size + 1) _ lim mode A B C D coast fr rfl ?_
    refine tkAt_set9 (lim0 := 0) (mode0 := 0) (A0 := 0) (B0 := 0) (C0 := 0) (D0 := 0) (coast0 := 0) (fr0 := 0) (u := .slice none 0 0) ?_ _ lim mode A B C D coast fr
    iterate 6 (refine TkAt.far ?_ (show w.heap.size + 1 ≠ w.heap.size + 1 + 1 by omega) _ _)
    exact unhide R3
  · refine ⟨w.heap.size + 1 + 1 + 1, rfl, ?_, by omega, ?_⟩
    · iterate 9 (refine OwnS.far ?_ (show w.heap.size + 1 + 1 + 1 ≠ w.heap.size + 1 by omega) _ _)
      iterate 6 (refine OwnS.far ?_ (show w.heap.size + 1 + 1 + 1 ≠ w.heap.size + 1 + 1 by omega) _ _)
      exact unhide O2
    · iterate 15 (refine belowSet ?_ (by omega) _ _)
      exact unhide B2

end Go.Proofs.YtjdehbpgdplolaaGreatDoor
