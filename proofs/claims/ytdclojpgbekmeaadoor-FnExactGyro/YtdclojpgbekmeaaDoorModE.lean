/- What the laws on trackers do with what is answered. -/
import Derived.Test.YtdclojpgbekmeaaDoorModD
namespace Go.Proofs.YtdclojpgbekmeaaDoor
open Go.RowKit Go.Sort
set_option linter.unusedVariables false

def TkO (w : World) (b : Nat) (v : Value) (lim mode A B C D coast fr code : Int) : Prop := TkAt w b v lim mode A B C D coast fr ∧ w.cell? ⟨b, 9, none⟩ = some (.int .i64 code)
theorem TkO.kept {w w' : World} {b : Nat} {v : Value} {lim mode A B C D coast fr code : Int} (h : TkO w b v lim mode A B C D coast fr code) (hB : Below w.heap.size w w') : TkO w' b v lim mode A B C D coast fr code := ⟨h.1.kept hB, cellK h.2 hB⟩
theorem tkO_new (w : World) (v : Value) (lim mode A B C D coast fr code : Int) (t : TypeId) : TkO (w.alloc (.cells #[v, .int .i64 lim, .int .i64 mode, .int .i64 A, .int .i64 B, .int .i64 C, .int .i64 D, .int .i64 coast, .int .i64 fr, .int .i64 code] t)) w.heap.size v lim mode A B C D coast fr code := by
  refine ⟨⟨?_, ?_, ?_, ?_, ?_, ?_, ?_, ?_, ?_⟩, ?_⟩ <;> simp
theorem cellG {w w' : World} {a : Addr} {v : Value} {row : Option Nat} (h : w.cell? a = some v) (hg : w.grownBy w' row) (hne : some a.block ≠ row) : w'.cell? a = some v := (World.cell?_of_block (hg.block a.block (World.block_lt_of_cell? w a h) hne)).trans h
theorem TkAt.grown {w w' : World} {b : Nat} {v : Value} {lim mode A B C D coast fr : Int} {row : Option Nat} (h : TkAt w b v lim mode A B C D coast fr) (hg : w.grownBy w' row) (hne : some b ≠ row) : TkAt w' b v lim mode A B C D coast fr := by
  obtain ⟨h0, h1, h2, h3, h4, h5, h6, h7, h8⟩ := h
  exact ⟨cellG h0 hg hne, cellG h1 hg hne, cellG h2 hg hne, cellG h3 hg hne, cellG h4 hg hne, cellG h5 hg hne, cellG h6 hg hne, cellG h7 hg hne, cellG h8 hg hne⟩
theorem TkO.grown {w w' : World} {b : Nat} {v : Value} {lim mode A B C D coast fr code : Int} {row : Option Nat} (h : TkO w b v lim mode A B C D coast fr code) (hg : w.grownBy w' row) (hne : some b ≠ row) : TkO w' b v lim mode A B C D coast fr code := ⟨h.1.grown hg hne, cellG h.2 hg hne⟩

set_option maxHeartbeats 2000000 in
set_option maxRecDepth 100000 in
theorem eqTrackerOut_same (L : List St) (n : Nat) (lim mode A B C D coast fr code : Int) (a a' : Option Addr) (c c' : Nat) (w : World) (hn : n ≤ 1048576) (hS : Stars w a L n) (hS' : Stars w a' L n) :
    Calls Tryd.prog 16 #[.agg #[.slice a n c, .int .i64 lim, .int .i64 mode, .int .i64 A, .int .i64 B, .int .i64 C, .int .i64 D, .int .i64 coast, .int .i64 fr, .int .i64 code], .agg #[.slice a' n c', .int .i64 lim, .int .i64 mode, .int .i64 A, .int .i64 B, .int .i64 C, .int .i64 D, .int .i64 coast, .int .i64 fr, .int .i64 code]] w fun e w' => e = .returned (.bool true) ∧ Below w.heap.size w w' := by
  have B1 := hide (below2 w (.cells #[.slice a n c, .int .i64 lim, .int .i64 mode, .int .i64 A, .int .i64 B, .int .i64 C, .int .i64 D, .int .i64 coast, .int .i64 fr, .int .i64 code] 38) (.cells #[.slice a' n c', .int .i64 lim, .int .i64 mode, .int .i64 A, .int .i64 B, .int .i64 C, .int .i64 D, .int .i64 coast, .int .i64 fr, .int .i64 code] 38))
  have O1 : Hid (TkO ((w.alloc (.cells #[.slice a n c, .int .i64 lim, .int .i64 mode, .int .i64 A, .int .i64 B, .int .i64 C, .int .i64 D, .int .i64 coast, .int .i64 fr, .int .i64 code] 38)).alloc (.cells #[.slice a' n c', .int .i64 lim, .int .i64 mode, .int .i64 A, .int .i64 B, .int .i64 C, .int .i64 D, .int .i64 coast, .int .i64 fr, .int .i64 code] 38)) w.heap.size (.slice a n c) lim mode A B C D coast fr code) := hide ((tkO_new w _ _ _ _ _ _ _ _ _ _ _).kept (below1 _ _))
  have O2 : Hid (TkO ((w.alloc (.cells #[.slice a n c, .int .i64 lim, .int .i64 mode, .int .i64 A, .int .i64 B, .int .i64 C, .int .i64 D, .int .i64 coast, .int .i64 fr, .int .i64 code] 38)).alloc (.cells #[.slice a' n c', .int .i64 lim, .int .i64 mode, .int .i64 A, .int .i64 B, .int .i64 C, .int .i64 D, .int .i64 coast, .int .i64 fr, .int .i64 code] 38)) (w.heap.size + 1) (.slice a' n c') lim mode A B C D coast fr code) := hide (by simpa using tkO_new (w.alloc (.cells #[.slice a n c, .int .i64 lim, .int .i64 mode, .int .i64 A, .int .i64 B, .int .i64 C, .int .i64 D, .int .i64 coast, .int .i64 fr, .int .i64 code] 38)) (.slice a' n c') lim mode A B C D coast fr code 38)
  have cE := hide (eqTracker_same L n lim mode A B C D coast fr a a' c c' _ hn (hS.kept (unhide B1)) (hS'.kept (unhide B1)))
  clear hS hS'
  go_enter Tryd.func16, Tryd.ntmps16
  go_wp2_with fail
  refine (unhide cE).mono ?_
  rintro e w1 ⟨rfl, hx⟩
  obtain ⟨⟨p0, p1, p2, p3, p4, p5, p6, p7, p8⟩, p9⟩ := (unhide O1).kept hx
  obtain ⟨⟨q0, q1, q2, q3, q4, q5, q6, q7, q8⟩, q9⟩ := (unhide O2).kept hx
  have B2 := hide (below_call (unhide B1) hx)
  clear hx B1 O1 O2 cE
  go_wp2_with fail
  go_ret
  exact ⟨rfl, unhide B2⟩
set_option maxHeartbeats 1000000 in
set_option maxRecDepth 100000 in
theorem markTracker_any (n : Nat) (lim mode A B C D coast fr : Int) (a : Option Addr) (c : Nat) (row : Option Nat) (w : World) (hn : n ≤ 1048576) (hO : OwnR w a n row) :
    Calls Tryd.prog 24 #[.agg #[.slice a n c, .int .i64 lim, .int .i64 mode, .int .i64 A, .int .i64 B, .int .i64 C, .int .i64 D, .int .i64 coast, .int .i64 fr], .int .i64 1] w fun e w' => e = .returned (.int .i64 (1 + (n : Int) * 4)) ∧ Mkd w' a n row ∧ w.grownBy w' row := by
  have B1 := below1 w (.cells #[.slice a n c, .int .i64 lim, .int .i64 mode, .int .i64 A, .int .i64 B, .int .i64 C, .int .i64 D, .int .i64 coast, .int .i64 fr] 32)
  have HB := hide B1
  rcases hO with ⟨rfl, rfl⟩ | ⟨g, f, rfl, rfl, hR⟩
  · clear B1
    go_enter Tryd.func24, Tryd.ntmps24
    go_wp2_with fail
    refine (markStarS_none a c _).mono ?_
    rintro e w1 ⟨rfl, hw⟩
    rw [hw]
    clear hw w1
    go_wp2_with fail
    go_ret
    exact ⟨rfl, .inl ⟨rfl, rfl⟩, ⟨(unhide HB).os, (unhide HB).tape, (unhide HB).output, (unhide HB).size, fun k hk _ => (unhide HB).block k hk⟩⟩
  · have HR := hide (hR.kept B1)
    clear B1 hR
    have cM := hide (fun W h => markStarS_any n c g f W hn h)
    go_enter Tryd.func24, Tryd.ntmps24
    go_wp2_with fail
    refine (unhide cM _ (unhide HR)).mono ?_
    rintro e w1 ⟨rfl, hr, hg⟩
    have HG := hide (grownTr (grownB (unhide HB)) hg)
    have HR2 := hide hr
    clear hr hg cM
    go_wp2_with fail
    go_ret
    exact ⟨rfl, .inr ⟨g, rfl, rfl, unhide HR2⟩, unhide HG⟩
set_option maxHeartbeats 1000000 in
set_option maxRecDepth 100000 in
theorem markTrackerOut_any (n : Nat) (lim mode A B C D coast fr code : Int) (a : Option Addr) (c : Nat) (row : Option Nat) (w : World) (hn : n ≤ 1048576) (hO : OwnR w a n row) :
    Calls Tryd.prog 19 #[.agg #[.slice a n c, .int .i64 lim, .int .i64 mode, .int .i64 A, .int .i64 B, .int .i64 C, .int .i64 D, .int .i64 coast, .int .i64 fr, .int .i64 code], .int .i64 1] w fun e w' => e = .returned (.int .i64 (1 + (n : Int) * 4)) ∧ Mkd w' a n row ∧ w.grownBy w' row := by
  have B1 := below1 w (.cells #[.slice a n c, .int .i64 lim, .int .i64 mode, .int .i64 A, .int .i64 B, .int .i64 C, .int .i64 D, .int .i64 coast, .int .i64 fr, .int .i64 code] 38)
  have cM := hide (markTracker_any n lim mode A B C D coast fr a c row _ hn (hO.kept B1))
  have HB := hide B1
  clear B1 hO
  go_enter Tryd.func19, Tryd.ntmps19
  go_wp2_with fail
  refine (unhide cM).mono ?_
  rintro e w1 ⟨rfl, hr, hg⟩
  have HG := hide (grownTr (⟨(unhide HB).os, (unhide HB).tape, (unhide HB).output, (unhide HB).size, fun k hk _ => (unhide HB).block k hk⟩ : w.grownBy _ row) hg)
  have HR2 := hide hr
  clear hr hg cM
  go_wp2_with fail
  go_ret
  exact ⟨rfl, unhide HR2, unhide HG⟩
set_option maxHeartbeats 1000000 in
set_option maxRecDepth 100000 in
theorem heldTracker_any (n : Nat) (lim mode A B C D coast fr : Int) (a : Option Addr) (c : Nat) (row : Option Nat) (w : World) (hn : n ≤ 1048576) (hO : Mkd w a n row) :
    Calls Tryd.prog 39 #[.agg #[.slice a n c, .int .i64 lim, .int .i64 mode, .int .i64 A, .int .i64 B, .int .i64 C, .int .i64 D, .int .i64 coast, .int .i64 fr], .int .i64 1] w fun e w' => e = .returned (.int .i64 (1 + (n : Int) * 4)) ∧ Below w.heap.size w w' := by
  have B1 := below1 w (.cells #[.slice a n c, .int .i64 lim, .int .i64 mode, .int .i64 A, .int .i64 B, .int .i64 C, .int .i64 D, .int .i64 coast, .int .i64 fr] 32)
  have HB := hide B1
  rcases hO with ⟨rfl, rfl⟩ | ⟨g, rfl, rfl, hR⟩
  · clear B1
    go_enter Tryd.func39, Tryd.ntmps39
    go_wp2_with fail
    refine (heldStarS_none a c _).mono ?_
    rintro e w1 ⟨rfl, hw⟩
    rw [hw]
    clear hw w1
    go_wp2_with fail
    go_ret
    exact ⟨rfl, unhide HB⟩
  · have HR := hide (hR.kept B1)
    clear B1 hR
    have cM := hide (fun W h => heldStarS_any n c g W hn h)
    have hk : decide (1 + (n : Int) * 4 < 0) = false := by simp; omega
    go_enter Tryd.func39, Tryd.ntmps39
    go_wp2_with fail
    refine (unhide cM _ (unhide HR)).mono ?_
    rintro e w1 ⟨rfl, hw⟩
    rw [hw]
    clear hw w1
    go_wp2_with fail
    go_ret
    exact ⟨rfl, unhide HB⟩
set_option maxHeartbeats 1000000 in
set_option maxRecDepth 100000 in
theorem heldTrackerOut_any (n : Nat) (lim mode A B C D coast fr code : Int) (a : Option Addr) (c : Nat) (row : Option Nat) (w : World) (hn : n ≤ 1048576) (hO : Mkd w a n row) :
    Calls Tryd.prog 20 #[.agg #[.slice a n c, .int .i64 lim, .int .i64 mode, .int .i64 A, .int .i64 B, .int .i64 C, .int .i64 D, .int .i64 coast, .int .i64 fr, .int .i64 code], .int .i64 1] w fun e w' => e = .returned (.int .i64 (1 + (n : Int) * 4)) ∧ Below w.heap.size w w' := by
  have B1 := below1 w (.cells #[.slice a n c, .int .i64 lim, .int .i64 mode, .int .i64 A, .int .i64 B, .int .i64 C, .int .i64 D, .int .i64 coast, .int .i64 fr, .int .i64 code] 38)
  have cM := hide (heldTracker_any n lim mode A B C D coast fr a c row _ hn (hO.kept B1))
  have HB := hide B1
  have hk : decide (1 + (n : Int) * 4 < 0) = false := by simp; omega
  clear B1 hO
  go_enter Tryd.func20, Tryd.ntmps20
  go_wp2_with fail
  refine (unhide cM).mono ?_
  rintro e w1 ⟨rfl, hx⟩
  have B2 := hide (below_call (unhide HB) hx)
  clear hx
  go_wp2_with fail
  go_ret
  exact ⟨rfl, unhide B2⟩
end Go.Proofs.YtdclojpgbekmeaaDoor
