/- Several texts in one: CmB, CmC, TurnB, TurnC. -/
import Derived.Defers
import Derived.Recover
import Derived.WalkLawsBesides
import Derived.Lib.QuietBelow
import Derived.Deep.QuietTactic
import Derived.BigQuiet
import Derived.BigRegion
import Derived.Test.YtnffnjljjecphaaDoorQCommandReadOwn5
import Derived.Test.YtnffnjljjecphaaDoorQCommandReadOwn3
namespace Go.Proofs.YtnffnjljjecphaaDoor
open Go.RowKit Go.Sort
set_option linter.unusedVariables false

/-- the program's errNoCommand points at b -/
def ErrCmd (b : Addr) (w : World) : Prop := w.cell? ⟨0, 0, none⟩ = some (.iface 182 (.pointer (some b)))
theorem ErrCmd.lt {b : Addr} {w : World} (h : ErrCmd b w) : 0 < w.heap.size := World.block_lt_of_cell? w _ h
theorem ErrCmd.kept {b : Addr} {w w' : World} (h : ErrCmd b w) (hB : Below w.heap.size w w') : ErrCmd b w' := by
  unfold ErrCmd
  rw [hB.cell (p := ⟨0, 0, none⟩) h.lt]
  exact h
/-- the end of a call that panics with errNoCommand -/
def noCmd (b : Addr) : Ending := .panicked [{ v := .iface 182 (.pointer (some b)), recovered := false }]
theorem must_yes (w : World) : Calls Tryd.prog 68 #[.bool true] w fun e w' => e = .returned (.tuple #[]) ∧ w' = w := by
  go_enter Tryd.func68, Tryd.ntmps68
  go_wp2
  go_end0
  exact ⟨rfl, rfl⟩
theorem must_no (p : Addr) (w : World) (h : ErrCmd p w) : Calls Tryd.prog 68 #[.bool false] w fun e w' => e = noCmd p ∧ w' = w := by
  unfold ErrCmd at h
  go_enter Tryd.func68, Tryd.ntmps68
  go_wp2
  exact ⟨rfl, rfl, rfl⟩

def frEq (a b a' b' : Int) (s s' : ByteArray) : Bool := decide (a = a') && decide (b = b') && decide (s.toList = s'.toList)
theorem equal_frame (a b a' b' : Int) (s s' : ByteArray) (w : World) : (Op.equalIn 10000 33 (.agg #[.int .i64 a, .int .i64 b, .string s]) (.agg #[.int .i64 a', .int .i64 b', .string s'])).run Tryd.prog w = .ok (frEq a b a' b' s s') w := by
  have h := run_equalIn_struct (P := Tryd.prog) w 9999 33 #[.int .i64 a, .int .i64 b, .string s] #[.int .i64 a', .int .i64 b', .string s'] (by kernel_rfl) (by kernel_rfl)
  refine h.trans ?_
  by_cases h1 : a = a'
  · by_cases h2 : b = b'
    · by_cases h3 : s.toList = s'.toList
      · simp [go_sem, frEq, h1, h2, h3]
      · simp [go_sem, frEq, h1, h2, h3]
    · simp [go_sem, frEq, h1, h2]
  · simp [go_sem, frEq, h1]
theorem eql_frame (a b a' b' : Int) (s s' : ByteArray) (w : World) : (binOp .eql 33 (.agg #[.int .i64 a, .int .i64 b, .string s]) (.agg #[.int .i64 a', .int .i64 b', .string s'])).run Tryd.prog w = .ok (.bool (frEq a b a' b' s s')) w := by
  rw [run_eql_struct, equal_frame]; rfl

set_option maxRecDepth 100000 in
theorem equal_len (a a' : Option Addr) (n m c c' : Nat) (w : World) (hne : n ≠ m) :
    Calls Tryd.prog 104 #[.slice a n c, .slice a' m c'] w fun e w' => e = .returned (.bool false) ∧ Below w.heap.size w w' := by
  have h : ¬ (n : Int) = (m : Int) := by omega
  go_enter Tryd.func104, Tryd.ntmps104
  go_wp2_with fail
  go_ret
  exact ⟨rfl, Below.refl _ _⟩
set_option maxHeartbeats 1000000 in
set_option maxRecDepth 100000 in
theorem equal_same (L : List D3) (a a' : Option Addr) (n c c' : Nat) (w : World) (hn : n ≤ 1048576) (hS : Dirs w a L n) (hS' : Dirs w a' L n) :
    Calls Tryd.prog 104 #[.slice a n c, .slice a' n c'] w fun e w' => e = .returned (.bool true) ∧ Below w.heap.size w w' := by
  rcases hS with rfl | ⟨b, o, rfl, hb, hc⟩
  · go_enter Tryd.func104, Tryd.ntmps104
    go_wp2_with fail
    refine wp_loop_rounds 1 ?_
    rw [rounds_succ]
    go_wp2_with fail
    go_ret
    exact ⟨rfl, Below.refl _ _⟩
  rcases hS' with rfl | ⟨b', o', rfl, hb', hc'⟩
  · go_enter Tryd.func104, Tryd.ntmps104
    go_wp2_with fail
    refine wp_loop_rounds 1 ?_
    rw [rounds_succ]
    go_wp2_with fail
    go_ret
    exact ⟨rfl, Below.refl _ _⟩
  have HC := hide hc
  have HC' := hide hc'
  clear hc hc'
  go_enter Tryd.func104, Tryd.ntmps104
  go_wp2_with fail
  go_loopw [13] (fun i wr => ∃ k : Nat, k ≤ n ∧ i = .int .i64 k ∧ Hid (Below w.heap.size w wr)) (fun i _ => n - (intOf i).toNat)
  case atStart => exact ⟨0, by omega, rfl, hide (Below.refl _ _)⟩
  case round =>
    obtain ⟨k, hk, rfl, HB⟩ := hrel
    by_cases hkn : k < n
    · have hkn2 : (k : Int) < (n : Int) := by omega
      obtain ⟨c0, c1, c2⟩ := ((unhide HC) k hkn).kept hb (unhide HB)
      obtain ⟨d0, d1, d2⟩ := ((unhide HC') k hkn).kept hb' (unhide HB)
      generalize (vA L k).1 = x0 at *
      generalize (vA L k).2.1 = x1 at *
      generalize (vA L k).2.2 = x2 at *
      have r0 := cell_regrown c0
      have r1 := cell_regrown c1
      have r2 := cell_regrown c2
      have t0 := cell_regrown d0
      have t1 := cell_regrown d1
      have t2 := cell_regrown d2
      have hq : ∀ W : World, (binOp .neq 75 (.agg #[.int .i64 x0, .int .i64 x1, .int .i64 x2]) (.agg #[.int .i64 x0, .int .i64 x1, .int .i64 x2])).run Tryd.prog W = .ok (.bool false) W := fun W => by
        rw [neq_vec]
        simp [eqB]
      clear c0 c1 c2 d0 d1 d2
      go_wp2_with fail
      refine wp_region_quiet_below (by kernel_rfl) (by kernel_rfl) ?_
      repeat (go_big_quiet_step (fail))
      refine wpQuiet_nil ?_
      intro _ hw'
      obtain ⟨⟨dq, osq⟩, hw''⟩ := hw'
      subst hw''
      have hx := below_call (unhide HB) (below_regrown wr dq osq)
      generalize grow (redrawn wr dq) osq = W2 at hx ⊢
      have HB2 := hide hx
      clear hx HB r0 r1 r2 t0 t1 t2
      go_wp2_with fail
      go_roundw
      case rel => exact ⟨k + 1, by omega, by go_num, HB2⟩
      case measure => simp [intOf]; omega
    · have hkn' : k = n := by omega
      subst hkn'
      go_wp2_with fail
      go_ret
      exact ⟨rfl, unhide HB⟩
end Go.Proofs.YtnffnjljjecphaaDoor

namespace Go.Proofs.YtnffnjljjecphaaDoor
open Go.RowKit Go.Sort
set_option linter.unusedVariables false

/-- what sameCommand tells, q: whether the spots are the same -/
def sameC (c d : Cm) (q : Bool) : Bool := decide (c.kind = d.kind) && eqT c.A c.B c.C c.D d.A d.B d.C d.D && q && frEq c.wd c.ht d.wd d.ht c.px d.px && decide (c.lv = d.lv) && decide (c.fo = d.fo)
set_option maxHeartbeats 4000000 in
set_option maxRecDepth 100000 in
theorem sameCommand_any (kind' A' B' C' D' wd' ht' lv' fo' kind A B C D wd ht lv fo : Int) (px' px : ByteArray) (S' S : List D3) (a a' : Option Addr) (n m c c' : Nat) (q : Bool) (w : World)
    (hq : ∀ W : World, Below w.heap.size w W → Calls Tryd.prog 104 #[.slice a' m c', .slice a n c] W fun e w' => e = .returned (.bool q) ∧ Below W.heap.size W w') :
    Calls Tryd.prog 74 #[.agg #[.int .i64 kind', .int .i64 A', .int .i64 B', .int .i64 C', .int .i64 D', .slice a' m c', .int .i64 wd', .int .i64 ht', .string px', .int .i64 lv', .int .i64 fo'], .agg #[.int .i64 kind, .int .i64 A, .int .i64 B, .int .i64 C, .int .i64 D, .slice a n c, .int .i64 wd, .int .i64 ht, .string px, .int .i64 lv, .int .i64 fo]] w fun e w' => e = .returned (.bool (sameC ⟨kind', A', B', C', D', S', wd', ht', px', lv', fo'⟩ ⟨kind, A, B, C, D, S, wd, ht, px, lv, fo⟩ q)) ∧ Below w.heap.size w w' := by
  have B0 := hide (below2 w (.cells #[.int .i64 kind', .int .i64 A', .int .i64 B', .int .i64 C', .int .i64 D', .slice a' m c', .int .i64 wd', .int .i64 ht', .string px', .int .i64 lv', .int .i64 fo'] 35) (.cells #[.int .i64 kind, .int .i64 A, .int .i64 B, .int .i64 C, .int .i64 D, .slice a n c, .int .i64 wd, .int .i64 ht, .string px, .int .i64 lv, .int .i64 fo] 35))
  have A0 := hide ((blk_new w [.int .i64 kind', .int .i64 A', .int .i64 B', .int .i64 C', .int .i64 D', .slice a' m c', .int .i64 wd', .int .i64 ht', .string px', .int .i64 lv', .int .i64 fo'] 35).alloc (.cells #[.int .i64 kind, .int .i64 A, .int .i64 B, .int .i64 C, .int .i64 D, .slice a n c, .int .i64 wd, .int .i64 ht, .string px, .int .i64 lv, .int .i64 fo] 35))
  have U0 := hide (by simpa using blk_new (w.alloc (.cells #[.int .i64 kind', .int .i64 A', .int .i64 B', .int .i64 C', .int .i64 D', .slice a' m c', .int .i64 wd', .int .i64 ht', .string px', .int .i64 lv', .int .i64 fo'] 35)) [.int .i64 kind, .int .i64 A, .int .i64 B, .int .i64 C, .int .i64 D, .slice a n c, .int .i64 wd, .int .i64 ht, .string px, .int .i64 lv, .int .i64 fo] 35 : Blk ((w.alloc (.cells #[.int .i64 kind', .int .i64 A', .int .i64 B', .int .i64 C', .int .i64 D', .slice a' m c', .int .i64 wd', .int .i64 ht', .string px', .int .i64 lv', .int .i64 fo'] 35)).alloc (.cells #[.int .i64 kind, .int .i64 A, .int .i64 B, .int .i64 C, .int .i64 D, .slice a n c, .int .i64 wd, .int .i64 ht, .string px, .int .i64 lv, .int .i64 fo] 35)) (w.heap.size + 1) [.int .i64 kind, .int .i64 A, .int .i64 B, .int .i64 C, .int .i64 D, .slice a n c, .int .i64 wd, .int .i64 ht, .string px, .int .i64 lv, .int .i64 fo] 35)
  have cQ := hide (hq _ (unhide B0))
  clear hq
  obtain ⟨y1, e1⟩ : ∃ y, decide (kind' = kind) = y := ⟨_, rfl⟩
  obtain ⟨y2, e2⟩ : ∃ y, eqT A' B' C' D' A B C D = y := ⟨_, rfl⟩
  obtain ⟨y4, e4⟩ : ∃ y, frEq wd' ht' wd ht px' px = y := ⟨_, rfl⟩
  obtain ⟨y5, e5⟩ : ∃ y, decide (lv' = lv) = y := ⟨_, rfl⟩
  obtain ⟨y6, e6⟩ : ∃ y, decide (fo' = fo) = y := ⟨_, rfl⟩
  have HO : Hid (sameC ⟨kind', A', B', C', D', S', wd', ht', px', lv', fo'⟩ ⟨kind, A, B, C, D, S, wd, ht, px, lv, fo⟩ q = (y1 && y2 && q && y4 && y5 && y6)) := hide (by unfold sameC; dsimp only; rw [e1, e2, e4, e5, e6])
  have x1 : (kind' == kind) = y1 := by rw [← e1]; rfl
  have x5 : (lv' == lv) = y5 := by rw [← e5]; rfl
  have x6 : (fo' == fo) = y6 := by rw [← e6]; rfl
  have x2 : ∀ W : World, (binOp .eql 31 (.agg #[.int .i64 A', .int .i64 B', .int .i64 C', .int .i64 D']) (.agg #[.int .i64 A, .int .i64 B, .int .i64 C, .int .i64 D])).run Tryd.prog W = .ok (.bool y2) W := fun W => by rw [eql_turn, e2]
  have x4 : ∀ W : World, (binOp .eql 33 (.agg #[.int .i64 wd', .int .i64 ht', .string px']) (.agg #[.int .i64 wd, .int .i64 ht, .string px])).run Tryd.prog W = .ok (.bool y4) W := fun W => by rw [eql_frame, e4]
  clear e1 e2 e4 e5 e6
  cases y1
  · go_enter Tryd.func74, Tryd.ntmps74
    go_wp2_with fail
    go_ret
    exact ⟨by rw [unhide HO]; rfl, unhide B0⟩
  cases y2
  · go_enter Tryd.func74, Tryd.ntmps74
    go_wp2_with fail
    go_ret
    exact ⟨by rw [unhide HO]; rfl, unhide B0⟩
  go_enter Tryd.func74, Tryd.ntmps74
  go_wp2_with fail
  refine (unhide cQ).mono ?_
  rintro e w1 ⟨rfl, hx⟩
  have A1 := hide ((unhide A0).kept hx)
  have U1 := hide ((unhide U0).kept hx)
  have B1 := hide (below_call (unhide B0) hx)
  clear hx A0 U0 B0 cQ
  have q0 := (unhide A1).cell 0 _ rfl
  have q1 := (unhide A1).cell 1 _ rfl
  have q2 := (unhide A1).cell 2 _ rfl
  have q3 := (unhide A1).cell 3 _ rfl
  have q4 := (unhide A1).cell 4 _ rfl
  have q5 := (unhide A1).cell 5 _ rfl
  have q6 := (unhide A1).cell 6 _ rfl
  have q7 := (unhide A1).cell 7 _ rfl
  have q8 := (unhide A1).cell 8 _ rfl
  have q9 := (unhide A1).cell 9 _ rfl
  have q10 := (unhide A1).cell 10 _ rfl
  have u0 := (unhide U1).cell 0 _ rfl
  have u1 := (unhide U1).cell 1 _ rfl
  have u2 := (unhide U1).cell 2 _ rfl
  have u3 := (unhide U1).cell 3 _ rfl
  have u4 := (unhide U1).cell 4 _ rfl
  have u5 := (unhide U1).cell 5 _ rfl
  have u6 := (unhide U1).cell 6 _ rfl
  have u7 := (unhide U1).cell 7 _ rfl
  have u8 := (unhide U1).cell 8 _ rfl
  have u9 := (unhide U1).cell 9 _ rfl
  have u10 := (unhide U1).cell 10 _ rfl
  cases q
  · go_wp2_with fail
    go_ret
    exact ⟨by rw [unhide HO]; rfl, unhide B1⟩
  cases y4
  · go_wp2_with fail
    go_ret
    exact ⟨by rw [unhide HO]; rfl, unhide B1⟩
  cases y5
  · go_wp2_with fail
    go_ret
    exact ⟨by rw [unhide HO]; rfl, unhide B1⟩
  go_wp2_with fail
  go_ret
  exact ⟨by rw [unhide HO]; simp, unhide B1⟩

set_option maxRecDepth 100000 in
theorem resetCmd_any (w : World) : Calls Tryd.prog 146 #[.agg #[]] w fun e w' => e = .returned (.agg #[.int .i64 1, .int .i64 0, .int .i64 0, .int .i64 0, .int .i64 0, .slice none 0 0, .int .i64 0, .int .i64 0, .string ⟨#[]⟩, .int .i64 0, .int .i64 0]) ∧ Below w.heap.size w w' := by
  go_enter Tryd.func146, Tryd.ntmps146
  go_wp2
  exact bodyPost_ret (v := .agg #[.int .i64 1, .int .i64 0, .int .i64 0, .int .i64 0, .int .i64 0, .slice none 0 0, .int .i64 0, .int .i64 0, .string ⟨#[]⟩, .int .i64 0, .int .i64 0]) (by simp [results, Tryd.results146, go_sem]) rfl ⟨rfl, below2 _ _ _⟩
set_option maxRecDepth 100000 in
theorem gyroCmd_any (A B C D : Int) (w : World) : Calls Tryd.prog 148 #[.agg #[.int .i64 A, .int .i64 B, .int .i64 C, .int .i64 D]] w fun e w' => e = .returned (.agg #[.int .i64 2, .int .i64 A, .int .i64 B, .int .i64 C, .int .i64 D, .slice none 0 0, .int .i64 0, .int .i64 0, .string ⟨#[]⟩, .int .i64 0, .int .i64 0]) ∧ Below w.heap.size w w' := by
  go_enter Tryd.func148, Tryd.ntmps148
  go_wp2
  exact bodyPost_ret (v := .agg #[.int .i64 2, .int .i64 A, .int .i64 B, .int .i64 C, .int .i64 D, .slice none 0 0, .int .i64 0, .int .i64 0, .string ⟨#[]⟩, .int .i64 0, .int .i64 0]) (by simp [results, Tryd.results148, go_sem]) rfl ⟨rfl, below2 _ _ _⟩
set_option maxRecDepth 100000 in
theorem lookCmd_any (a : Option Addr) (n c : Nat) (w : World) : Calls Tryd.prog 150 #[.agg #[.slice a n c]] w fun e w' => e = .returned (.agg #[.int .i64 3, .int .i64 0, .int .i64 0, .int .i64 0, .int .i64 0, .slice a n c, .int .i64 0, .int .i64 0, .string ⟨#[]⟩, .int .i64 0, .int .i64 0]) ∧ Below w.heap.size w w' := by
  go_enter Tryd.func150, Tryd.ntmps150
  go_wp2
  exact bodyPost_ret (v := .agg #[.int .i64 3, .int .i64 0, .int .i64 0, .int .i64 0, .int .i64 0, .slice a n c, .int .i64 0, .int .i64 0, .string ⟨#[]⟩, .int .i64 0, .int .i64 0]) (by simp [results, Tryd.results150, go_sem]) rfl ⟨rfl, below2 _ _ _⟩
set_option maxRecDepth 100000 in
theorem frameCmd_any (wd ht lv fo : Int) (px : ByteArray) (w : World) : Calls Tryd.prog 152 #[.agg #[.int .i64 wd, .int .i64 ht, .string px, .int .i64 lv, .int .i64 fo]] w fun e w' => e = .returned (.agg #[.int .i64 4, .int .i64 0, .int .i64 0, .int .i64 0, .int .i64 0, .slice none 0 0, .int .i64 wd, .int .i64 ht, .string px, .int .i64 lv, .int .i64 fo]) ∧ Below w.heap.size w w' := by
  go_enter Tryd.func152, Tryd.ntmps152
  go_wp2
  exact bodyPost_ret (v := .agg #[.int .i64 4, .int .i64 0, .int .i64 0, .int .i64 0, .int .i64 0, .slice none 0 0, .int .i64 wd, .int .i64 ht, .string px, .int .i64 lv, .int .i64 fo]) (by simp [results, Tryd.results152, go_sem]) rfl ⟨rfl, below2 _ _ _⟩
set_option maxRecDepth 100000 in
theorem isLevelC (lv : Int) (w : World) : Calls Tryd.prog 72 #[.int .i64 lv] w fun e w' => e = .returned (.bool (spanB 0 255 lv)) ∧ w' = w := by
  by_cases h : 0 ≤ lv
  · go_enter Tryd.func72, Tryd.ntmps72
    go_wp2
    go_ret
    exact ⟨by simp [spanB, h], rfl⟩
  · go_enter Tryd.func72, Tryd.ntmps72
    go_wp2
    go_ret
    exact ⟨by rw [span_low (by omega)]; rfl, rfl⟩
set_option maxRecDepth 100000 in
theorem isFocalC (lv : Int) (w : World) : Calls Tryd.prog 73 #[.int .i64 lv] w fun e w' => e = .returned (.bool (spanB 1 40 lv)) ∧ w' = w := by
  by_cases h : 1 ≤ lv
  · go_enter Tryd.func73, Tryd.ntmps73
    go_wp2
    go_ret
    exact ⟨by simp [spanB, h], rfl⟩
  · go_enter Tryd.func73, Tryd.ntmps73
    go_wp2
    go_ret
    exact ⟨by rw [span_low (by omega)]; rfl, rfl⟩
end Go.Proofs.YtnffnjljjecphaaDoor

namespace Go.Proofs.YtnffnjljjecphaaDoor
open Go.RowKit
set_option linter.unusedVariables false

set_option maxRecDepth 100000 in
theorem l03Within_any (m a b c d : Int) (w : World) (hm0 : 0 ≤ m) (hm : m ≤ 1000000) :
    Calls Tryd.prog 62 #[.agg #[.int .i64 a, .int .i64 b, .int .i64 c, .int .i64 d], .int .i64 m] w fun e w' => e = .returned (.bool (inT m a b c d)) ∧ Below w.heap.size w w' := by
  have hwr : wrap64 (-m) = -m := wrap_id (by omega) (by omega)
  go_enter Tryd.func62, Tryd.ntmps62
  go_wp2_with fail
  refine (l02Is_any a (-m) m _).mono ?_
  rintro e w1 ⟨rfl, rfl⟩
  rw [isB]
  cases ha : inB m a
  · go_wp2_with fail
    go_ret
    exact ⟨by simp [inT, ha], below1 _ _⟩
  · go_wp2_with fail
    refine (l02Is_any b (-m) m _).mono ?_
    rintro e w1 ⟨rfl, rfl⟩
    rw [isB]
    cases hb : inB m b
    · go_wp2_with fail
      go_ret
      exact ⟨by simp [inT, hb], below1 _ _⟩
    · go_wp2_with fail
      refine (l02Is_any c (-m) m _).mono ?_
      rintro e w1 ⟨rfl, rfl⟩
      rw [isB]
      cases hc : inB m c
      · go_wp2_with fail
        go_ret
        exact ⟨by simp [inT, hc], below1 _ _⟩
      · go_wp2_with fail
        refine (l02Is_any d (-m) m _).mono ?_
        rintro e w1 ⟨rfl, rfl⟩
        rw [isB]
        go_wp2_with fail
        go_ret
        exact ⟨by simp [inT, ha, hb, hc], below1 _ _⟩

theorem fT_0 {a b c d : Int} (h : a ≠ 0) : fT a b c d = a := by unfold fT; rw [if_pos h]
theorem fT_1 {b c d : Int} (h : b ≠ 0) : fT 0 b c d = b := by unfold fT; rw [if_neg (by simp), if_pos h]
theorem fT_2 {c d : Int} (h : c ≠ 0) : fT 0 0 c d = c := by unfold fT; rw [if_neg (by simp), if_neg (by simp), if_pos h]
theorem fT_3 {d : Int} : fT 0 0 0 d = d := by unfold fT; rw [if_neg (by simp), if_neg (by simp), if_neg (by simp)]

set_option maxRecDepth 100000 in
theorem l03First_any (a b c d : Int) (w : World) :
    Calls Tryd.prog 63 #[.agg #[.int .i64 a, .int .i64 b, .int .i64 c, .int .i64 d]] w fun e w' => e = .returned (.int .i64 (fT a b c d)) ∧ Below w.heap.size w w' := by
  go_enter Tryd.func63, Tryd.ntmps63
  go_wp2_with fail
  go_loop [4] (fun i => ∃ k : Nat, k ≤ 4 ∧ i = .int .i64 k ∧ Hid (0 < k → a = 0) ∧ Hid (1 < k → b = 0) ∧ Hid (2 < k → c = 0) ∧ Hid (3 < k → d = 0)) (fun i => 4 - (intOf i).toNat)
  case atStart => exact ⟨0, Nat.zero_le _, rfl, hide (by omega), hide (by omega), hide (by omega), hide (by omega)⟩
  case round =>
    obtain ⟨k, hk, rfl, hx, hy, hz, hu⟩ := hrel
    have hk5 : k = 0 ∨ k = 1 ∨ k = 2 ∨ k = 3 ∨ k = 4 := by omega
    rcases hk5 with rfl | rfl | rfl | rfl | rfl
    · have _u := hk
      by_cases h : a = 0
      · subst h
        clear hx hy hz hu
        go_wp2
        go_round
        case rel => exact ⟨1, by omega, rfl, hide (by simp), hide (by omega), hide (by omega), hide (by omega)⟩
        case measure => simp [intOf]
      · have HF : Hid (fT a b c d = a) := hide (fT_0 h)
        clear hx hy hz hu
        go_wp2
        go_ret
        exact ⟨by rw [unhide HF]; rfl, below2 _ _ _⟩
    · have e0 := unhide hx (by omega)
      subst e0
      by_cases h : b = 0
      · subst h
        clear hx hy hz hu
        go_wp2
        go_round
        case rel => exact ⟨2, by omega, rfl, hide (by simp), hide (by simp), hide (by omega), hide (by omega)⟩
        case measure => simp [intOf]
      · have HF : Hid (fT 0 b c d = b) := hide (fT_1 h)
        clear hx hy hz hu
        go_wp2
        go_ret
        exact ⟨by rw [unhide HF]; rfl, below2 _ _ _⟩
    · have e0 := unhide hx (by omega)
      have e1 := unhide hy (by omega)
      subst e0 e1
      by_cases h : c = 0
      · subst h
        clear hx hy hz hu
        go_wp2
        go_round
        case rel => exact ⟨3, by omega, rfl, hide (by simp), hide (by simp), hide (by simp), hide (by omega)⟩
        case measure => simp [intOf]
      · have HF : Hid (fT 0 0 c d = c) := hide (fT_2 h)
        clear hx hy hz hu
        go_wp2
        go_ret
        exact ⟨by rw [unhide HF]; rfl, below2 _ _ _⟩
    · have e0 := unhide hx (by omega)
      have e1 := unhide hy (by omega)
      have e2 := unhide hz (by omega)
      subst e0 e1 e2
      by_cases h : d = 0
      · subst h
        clear hx hy hz hu
        go_wp2
        go_round
        case rel => exact ⟨4, by omega, rfl, hide (by simp), hide (by simp), hide (by simp), hide (by simp)⟩
        case measure => simp [intOf]
      · have HF : Hid (fT 0 0 0 d = d) := hide fT_3
        clear hx hy hz hu
        go_wp2
        go_ret
        exact ⟨by rw [unhide HF]; rfl, below2 _ _ _⟩
    · have e0 := unhide hx (by omega)
      have e1 := unhide hy (by omega)
      have e2 := unhide hz (by omega)
      have e3 := unhide hu (by omega)
      subst e0 e1 e2 e3
      clear hx hy hz hu
      go_wp2
      go_ret
      exact ⟨by rw [fT_3]; rfl, below2 _ _ _⟩

set_option maxRecDepth 100000 in
theorem l03Gcd_any (a b c d : Int) (w : World) (h : inT 1000 a b c d = true) :
    Calls Tryd.prog 64 #[.agg #[.int .i64 a, .int .i64 b, .int .i64 c, .int .i64 d]] w fun e w' => e = .returned (.int .i64 (gT a b c d)) ∧ Below w.heap.size w w' := by
  obtain ⟨ha, hb, hc, hd⟩ := inT_iff.1 h
  have hg1 := gcd_le ha hb
  have hg2 := gcd_le hc hd
  go_enter Tryd.func64, Tryd.ntmps64
  go_wp2_with fail
  go_quiet (first | (go_at_call_of 95 (Value.int IntKind.i64 a); refine Calls.quiet_of (l02Gcd_any a b _ (by omega) (by omega))) | (go_at_call_of 95 (Value.int IntKind.i64 c); refine Calls.quiet_of (l02Gcd_any c d _ (by omega) (by omega))) | (go_at_call 95; refine Calls.quiet_of (l02Gcd_any _ _ _ ?_ ?_) <;> omega))
  go_wp2
  go_ret
  exact ⟨rfl, below_call (below1 _ _) (below_drewN _ _)⟩

set_option maxRecDepth 100000 in
theorem specTRight_any (a b c d : Int) (w : World) :
    Calls Tryd.prog 26 #[.agg #[.int .i64 a, .int .i64 b, .int .i64 c, .int .i64 d]] w fun e w' => e = .returned (.bool (rightT a b c d)) ∧ Below w.heap.size w w' := by
  go_enter Tryd.func26, Tryd.ntmps26
  go_wp2_with fail
  refine (l03Within_any 5 a b c d _ (by omega) (by omega)).mono ?_
  rintro e w1 ⟨rfl, hB1⟩
  have va : TurnAt w1 w.heap.size a b c d := (turnAt_new w a b c d _).kept (by simp) hB1
  have hB : Below w.heap.size w w1 := below_call (below1 _ _) hB1
  clear hB1
  have hva := va
  obtain ⟨c0, c1, c2, c3⟩ := va
  cases h5 : inT 5 a b c d
  · go_wp2_with fail
    go_ret
    exact ⟨by simp [rightT, h5], hB⟩
  · go_wp2_with fail
    refine (l03First_any a b c d _).mono ?_
    rintro e w2 ⟨rfl, hB2⟩
    have va := hva.kept hva.lt hB2
    replace hB := below_call hB hB2
    clear hB2 hva c0 c1 c2 c3
    have hva := va
    obtain ⟨c0, c1, c2, c3⟩ := va
    by_cases hf : 0 < fT a b c d
    · go_wp2_with fail
      refine (l03Gcd_any a b c d _ (inT_mono h5 (by omega))).mono ?_
      rintro e w3 ⟨rfl, hB3⟩
      replace hB := below_call hB hB3
      go_wp2_with fail
      go_ret
      exact ⟨by rw [rightT, h5, decide_eq_true hf]; rfl, hB⟩
    · have HN := hide (decide_eq_false hf)
      go_wp2_with fail
      go_ret
      exact ⟨by rw [rightT, h5, unhide HN]; rfl, hB⟩

end Go.Proofs.YtnffnjljjecphaaDoor

namespace Go.Proofs.YtnffnjljjecphaaDoor
open Go.RowKit Go.Sort
set_option linter.unusedVariables false

def ptT (a b c d : Int) : Nat → Int
  | 0 => a
  | 1 => b
  | 2 => c
  | _ => d
def gS4 (a b c d : Int) : Nat → Int
  | 0 => 0
  | k + 1 => ((Int.gcd (gS4 a b c d k) (ptT a b c d k) : Nat) : Int)
def fS4 (a b c d : Int) : Nat → Int
  | 0 => 0
  | k + 1 => if fS4 a b c d k = 0 then ptT a b c d k else fS4 a b c d k
theorem ptT_le {m a b c d : Int} (h : inT m a b c d = true) (k : Nat) : -m ≤ ptT a b c d k ∧ ptT a b c d k ≤ m := by
  obtain ⟨h1, h2, h3, h4⟩ := inT_iff.1 h
  match k with
  | 0 => exact h1
  | 1 => exact h2
  | 2 => exact h3
  | _ + 3 => exact h4
theorem gS4_le {a b c d : Int} (h : inT 1000 a b c d = true) (k : Nat) : -1000000 ≤ gS4 a b c d k ∧ gS4 a b c d k ≤ 1000000 := by
  have : 0 ≤ gS4 a b c d k ∧ gS4 a b c d k ≤ 1000 := by
    induction k with
    | zero => exact ⟨by show (0 : Int) ≤ 0; omega, by show (0 : Int) ≤ 1000; omega⟩
    | succ k ih => exact gcd_le (m := 1000) (by omega) (ptT_le h k)
  omega
theorem fS4_all (a b c d : Int) : fS4 a b c d 4 = fT a b c d := by
  unfold fT
  by_cases h1 : a = 0
  · by_cases h2 : b = 0
    · by_cases h3 : c = 0
      · simp [fS4, ptT, h1, h2, h3]
      · simp [fS4, ptT, h1, h2, h3]
    · simp [fS4, ptT, h1, h2]
  · simp [fS4, ptT, h1]
theorem fS4_z {a b c d : Int} {k : Nat} (h : fS4 a b c d k = 0) : fS4 a b c d (k + 1) = ptT a b c d k := by
  show (if fS4 a b c d k = 0 then ptT a b c d k else fS4 a b c d k) = _
  rw [if_pos h]
theorem fS4_n {a b c d : Int} {k : Nat} (h : fS4 a b c d k ≠ 0) : fS4 a b c d (k + 1) = fS4 a b c d k := by
  show (if fS4 a b c d k = 0 then ptT a b c d k else fS4 a b c d k) = _
  rw [if_neg h]

set_option maxHeartbeats 1000000 in
set_option maxRecDepth 100000 in
theorem reduced_any (a b c d : Int) (w : World) (h : inT 1000 a b c d = true) (hz : ¬ (a = 0 ∧ b = 0 ∧ c = 0 ∧ d = 0)) :
    Calls Tryd.prog 101 #[.agg #[.int .i64 a, .int .i64 b, .int .i64 c, .int .i64 d]] w fun e w' => e = .returned (.agg #[.int .i64 (a.tdiv (sT a b c d)), .int .i64 (b.tdiv (sT a b c d)), .int .i64 (c.tdiv (sT a b c d)), .int .i64 (d.tdiv (sT a b c d))]) ∧ Below w.heap.size w w' := by
  have i0 : ∀ w : World, (Instr.index 153 (.agg #[.int .i64 a, .int .i64 b, .int .i64 c, .int .i64 d]) (.int .i64 0)).run Tryd.prog w = .ok (.int .i64 a) w := fun _ => by kernel_rfl
  have i1 : ∀ w : World, (Instr.index 153 (.agg #[.int .i64 a, .int .i64 b, .int .i64 c, .int .i64 d]) (.int .i64 1)).run Tryd.prog w = .ok (.int .i64 b) w := fun _ => by kernel_rfl
  have i2 : ∀ w : World, (Instr.index 153 (.agg #[.int .i64 a, .int .i64 b, .int .i64 c, .int .i64 d]) (.int .i64 2)).run Tryd.prog w = .ok (.int .i64 c) w := fun _ => by kernel_rfl
  have i3 : ∀ w : World, (Instr.index 153 (.agg #[.int .i64 a, .int .i64 b, .int .i64 c, .int .i64 d]) (.int .i64 3)).run Tryd.prog w = .ok (.int .i64 d) w := fun _ => by kernel_rfl
  have HI := hide h
  have HZ := hide hz
  have HW : Hid (∀ (x s : Int), -1000 ≤ x ∧ x ≤ 1000 → wrap64 (x.tdiv s) = x.tdiv s) := hide (fun x s hx => by have := tdiv_le (s := s) hx; exact wrap_id (by omega) (by omega))
  clear h hz
  go_enter Tryd.func101, Tryd.ntmps101
  go_wp2_with fail
  refine (tparts_any a b c d _).mono ?_
  rintro e w1 ⟨rfl, hB1⟩
  have va : TurnAt w1 w.heap.size a b c d := ((turnAt_new w a b c d _).alloc _).kept (by simp; omega) hB1
  have vr : TurnAt w1 (w.heap.size + 1) 0 0 0 0 := (by simpa using turnAt_new (w.alloc _) 0 0 0 0 _ : TurnAt _ (w.heap.size + 1) 0 0 0 0).kept (by simp) hB1
  have fr : FreeT w1 (w.heap.size + 1) := (by simpa using freeT_new (w.alloc _) 0 0 0 0 _ : FreeT _ (w.heap.size + 1)).kept (by simp) hB1
  have hB : Below w.heap.size w w1 := below_call (below2 _ _ _) hB1
  clear hB1
  have Va := hide va
  have Vr := hide vr
  have Fr := hide fr
  have HB := hide hB
  clear va vr fr hB
  go_wp2_with fail
  go_loopw [3, 4, 9] (fun u f i wr => ∃ (k n : Nat), k ≤ 4 ∧ i = .int .i64 k ∧ u = .int .i64 (gS4 a b c d k) ∧ f = .int .i64 (fS4 a b c d k) ∧ wr = w1.drewN n) (fun _ _ i _ => 4 - (intOf i).toNat)
  case atStart => exact ⟨0, 0, by omega, rfl, rfl, rfl, rfl⟩
  case round =>
    obtain ⟨k, n, hk, rfl, rfl, rfl, rfl⟩ := hrel
    have hk5 : k = 0 ∨ k = 1 ∨ k = 2 ∨ k = 3 ∨ k = 4 := by omega
    rcases hk5 with rfl | rfl | rfl | rfl | rfl
    · go_wp2_with fail
      refine (shared_any _ a _ (gS4_le (unhide HI) 0) (by have := ptT_le (unhide HI) 0; simp only [ptT] at this; omega)).mono ?_
      rintro e w3 ⟨rfl, m, rfl⟩
      have hg : ((Int.gcd (gS4 a b c d 0) a : Nat) : Int) = gS4 a b c d 1 := rfl
      rw [hg]
      clear hg
      by_cases hf : fS4 a b c d 0 = 0
      · have HF := hide (fS4_z hf)
        rw [hf]
        clear hf
        go_wp2_with fail
        go_roundw
        case rel => exact ⟨1, n + m, by omega, rfl, rfl, by rw [unhide HF]; rfl, by simp⟩
        case measure => simp [intOf]
      · have HF := hide (fS4_n hf)
        have hb : (fS4 a b c d 0 == 0) = false := by simpa using hf
        clear hf
        go_wp2_with fail
        go_roundw
        case rel => exact ⟨1, n + m, by omega, rfl, rfl, by rw [unhide HF], by simp⟩
        case measure => simp [intOf]
    · go_wp2_with fail
      refine (shared_any _ b _ (gS4_le (unhide HI) 1) (by have := ptT_le (unhide HI) 1; simp only [ptT] at this; omega)).mono ?_
      rintro e w3 ⟨rfl, m, rfl⟩
      have hg : ((Int.gcd (gS4 a b c d 1) b : Nat) : Int) = gS4 a b c d 2 := rfl
      rw [hg]
      clear hg
      by_cases hf : fS4 a b c d 1 = 0
      · have HF := hide (fS4_z hf)
        rw [hf]
        clear hf
        go_wp2_with fail
        go_roundw
        case rel => exact ⟨2, n + m, by omega, rfl, rfl, by rw [unhide HF]; rfl, by simp⟩
        case measure => simp [intOf]
      · have HF := hide (fS4_n hf)
        have hb : (fS4 a b c d 1 == 0) = false := by simpa using hf
        clear hf
        go_wp2_with fail
        go_roundw
        case rel => exact ⟨2, n + m, by omega, rfl, rfl, by rw [unhide HF], by simp⟩
        case measure => simp [intOf]
    · go_wp2_with fail
      refine (shared_any _ c _ (gS4_le (unhide HI) 2) (by have := ptT_le (unhide HI) 2; simp only [ptT] at this; omega)).mono ?_
      rintro e w3 ⟨rfl, m, rfl⟩
      have hg : ((Int.gcd (gS4 a b c d 2) c : Nat) : Int) = gS4 a b c d 3 := rfl
      rw [hg]
      clear hg
      by_cases hf : fS4 a b c d 2 = 0
      · have HF := hide (fS4_z hf)
        rw [hf]
        clear hf
        go_wp2_with fail
        go_roundw
        case rel => exact ⟨3, n + m, by omega, rfl, rfl, by rw [unhide HF]; rfl, by simp⟩
        case measure => simp [intOf]
      · have HF := hide (fS4_n hf)
        have hb : (fS4 a b c d 2 == 0) = false := by simpa using hf
        clear hf
        go_wp2_with fail
        go_roundw
        case rel => exact ⟨3, n + m, by omega, rfl, rfl, by rw [unhide HF], by simp⟩
        case measure => simp [intOf]
    · go_wp2_with fail
      refine (shared_any _ d _ (gS4_le (unhide HI) 3) (by have := ptT_le (unhide HI) 3; simp only [ptT] at this; omega)).mono ?_
      rintro e w3 ⟨rfl, m, rfl⟩
      have hg : ((Int.gcd (gS4 a b c d 3) d : Nat) : Int) = gS4 a b c d 4 := rfl
      rw [hg]
      clear hg
      by_cases hf : fS4 a b c d 3 = 0
      · have HF := hide (fS4_z hf)
        rw [hf]
        clear hf
        go_wp2_with fail
        go_roundw
        case rel => exact ⟨4, n + m, by omega, rfl, rfl, by rw [unhide HF]; rfl, by simp⟩
        case measure => simp [intOf]
      · have HF := hide (fS4_n hf)
        have hb : (fS4 a b c d 3 == 0) = false := by simpa using hf
        clear hf
        go_wp2_with fail
        go_roundw
        case rel => exact ⟨4, n + m, by omega, rfl, rfl, by rw [unhide HF], by simp⟩
        case measure => simp [intOf]
    · have hg : gS4 a b c d 4 = gT a b c d := gcd_four a b c d
      rw [hg, fS4_all]
      clear hg i0 i1 i2 i3
      have hw : wrap64 (-gT a b c d) = -gT a b c d := by have := gS4_le (unhide HI) 4; rw [show gS4 a b c d 4 = gT a b c d from gcd_four a b c d] at this; exact wrap_id (by omega) (by omega)
      have HE : Hid (∀ g, g = sT a b c d → Value.agg #[.int .i64 (wrap64 (a.tdiv g)), .int .i64 (wrap64 (b.tdiv g)), .int .i64 (wrap64 (c.tdiv g)), .int .i64 (wrap64 (d.tdiv g))] = .agg #[.int .i64 (a.tdiv (sT a b c d)), .int .i64 (b.tdiv (sT a b c d)), .int .i64 (c.tdiv (sT a b c d)), .int .i64 (d.tdiv (sT a b c d))]) := hide (by
        rintro g rfl
        obtain ⟨x1, x2, x3, x4⟩ := inT_iff.1 (unhide HI)
        rw [unhide HW _ _ x1, unhide HW _ _ x2, unhide HW _ _ x3, unhide HW _ _ x4])
      have HN : Hid (sT a b c d ≠ 0) := hide (sT_ne (unhide HZ))
      have va : TurnAt (w1.drewN n) w.heap.size a b c d := unhide Va
      have vr : TurnAt (w1.drewN n) (w.heap.size + 1) 0 0 0 0 := unhide Vr
      have fr : FreeT (w1.drewN n) (w.heap.size + 1) := unhide Fr
      have hB : Below w.heap.size w (w1.drewN n) := below_call (unhide HB) (below_drewN _ _)
      clear Va Vr Fr HB HW HI HZ
      by_cases hf : fT a b c d < 0
      · have hs : sT a b c d = -gT a b c d := by unfold sT; rw [if_pos hf]
        have HG := hide hs.symm
        rw [hs] at HN
        go_wp2_with fail
        rw [hw]
        generalize -gT a b c d = g at HN HG ⊢
        clear hw hs hf
        have hne : g ≠ 0 := unhide HN
        have hz0 : (g == 0) = false := by simpa using hne
        generalize w1.drewN n = w3 at va vr fr hB ⊢
        obtain ⟨ca0, ca1, ca2, ca3⟩ := va
        obtain ⟨cr0, cr1, cr2, cr3⟩ := vr
        obtain ⟨fr0, fr1, fr2, fr3⟩ := fr
        go_region
        go_wp2
        exact bodyPost_ret (v := _) (by simp [results, Tryd.results101, go_sem, cr0, cr1, cr2, cr3]) rfl ⟨congrArg _ (unhide HE g (unhide HG)), (below_set4 hB (by omega) _ _ _ _).drew⟩
      · have hs : sT a b c d = gT a b c d := by unfold sT; rw [if_neg hf]
        have HG := hide hs.symm
        rw [hs] at HN
        go_wp2_with fail
        generalize gT a b c d = g at HN HG ⊢
        clear hw hs hf
        have hne : g ≠ 0 := unhide HN
        have hz0 : (g == 0) = false := by simpa using hne
        generalize w1.drewN n = w3 at va vr fr hB ⊢
        obtain ⟨ca0, ca1, ca2, ca3⟩ := va
        obtain ⟨cr0, cr1, cr2, cr3⟩ := vr
        obtain ⟨fr0, fr1, fr2, fr3⟩ := fr
        go_region
        go_wp2
        exact bodyPost_ret (v := _) (by simp [results, Tryd.results101, go_sem, cr0, cr1, cr2, cr3]) rfl ⟨congrArg _ (unhide HE g (unhide HG)), (below_set4 hB (by omega) _ _ _ _).drew⟩

theorem zeroT_false {a b c d : Int} (h : zeroT a b c d = false) : ¬ (a = 0 ∧ b = 0 ∧ c = 0 ∧ d = 0) := fun e => by rw [zeroT_iff.2 e] at h; exact absurd h (by decide)
theorem rightT_zero {a b c d : Int} (h : zeroT a b c d = true) : rightT a b c d = false := by
  cases hr : rightT a b c d
  · rfl
  · exact absurd (zeroT_iff.1 h) (rightT_ne hr)

set_option maxRecDepth 100000 in
theorem turnRight_any (a b c d : Int) (w : World) :
    Calls Tryd.prog 69 #[.agg #[.int .i64 a, .int .i64 b, .int .i64 c, .int .i64 d]] w fun e w' => e = .returned (.bool (rightT a b c d)) ∧ Below w.heap.size w w' := by
  have hn := fun w => neq_turn a b c d 0 0 0 0 w
  have va0 := turnAt_new w a b c d 31
  have hB0 := below1 w (.cells #[.int .i64 a, .int .i64 b, .int .i64 c, .int .i64 d] 31)
  cases hz : eqT a b c d 0 0 0 0
  · rw [hz] at hn
    have HZ := hide (zeroT_false (show zeroT a b c d = false from hz))
    cases h5 : inT 5 a b c d
    · have HR : Hid (rightT a b c d = false) := hide (by rw [rightT, h5]; rfl)
      have cW := hide (fun W => (twithin_any 5 a b c d W (by omega) (by omega)).mono (fun e w' h => (⟨by rw [h.1, h5], h.2⟩ : e = .returned (.bool false) ∧ Below W.heap.size W w')))
      clear h5 hz
      go_enter Tryd.func69, Tryd.ntmps69
      go_wp2_with fail
      generalize w.alloc (.cells #[.int .i64 a, .int .i64 b, .int .i64 c, .int .i64 d] 31) = w1 at va0 hB0 ⊢
      obtain ⟨c0, c1, c2, c3⟩ := va0
      have k0 := cell_regrown c0
      have k1 := cell_regrown c1
      have k2 := cell_regrown c2
      have k3 := cell_regrown c3
      refine wp_region_quiet_below (by kernel_rfl) (by kernel_rfl) ?_
      repeat (quiet_step (exact Calls.regrown_of (unhide cW _)))
      refine wpQuiet_nil ?_
      intro _ hw'
      obtain ⟨⟨dq, osq⟩, hw''⟩ := hw'
      subst hw''
      clear c0 c1 c2 c3 k0 k1 k2 k3 hn
      go_wp2
      go_ret
      exact ⟨by rw [unhide HR]; rfl, below_call hB0 (below_regrown w1 dq osq)⟩
    · have HR := hide (right_reduced (unhide HZ))
      have HT : Hid (rightT a b c d = (decide (0 < fT a b c d) && decide (gT a b c d = 1))) := hide (by rw [rightT, h5, Bool.true_and])
      have cW := hide (fun W => (twithin_any 5 a b c d W (by omega) (by omega)).mono (fun e w' h => (⟨by rw [h.1, h5], h.2⟩ : e = .returned (.bool true) ∧ Below W.heap.size W w')))
      have cR := hide (fun W => reduced_any a b c d W (inT_mono h5 (by omega)) (unhide HZ))
      have he := fun w => eql_turn a b c d (a.tdiv (sT a b c d)) (b.tdiv (sT a b c d)) (c.tdiv (sT a b c d)) (d.tdiv (sT a b c d)) w
      rw [unhide HR] at he
      clear h5 hz HZ HR
      go_enter Tryd.func69, Tryd.ntmps69
      go_wp2_with fail
      generalize w.alloc (.cells #[.int .i64 a, .int .i64 b, .int .i64 c, .int .i64 d] 31) = w1 at va0 hB0 ⊢
      obtain ⟨c0, c1, c2, c3⟩ := va0
      have k0 := cell_regrown c0
      have k1 := cell_regrown c1
      have k2 := cell_regrown c2
      have k3 := cell_regrown c3
      refine wp_region_quiet_below (by kernel_rfl) (by kernel_rfl) ?_
      repeat (quiet_step (first | (with_reducible exact Calls.regrown_of (unhide cW _)) | (with_reducible exact Calls.regrown_of (unhide cR _))))
      refine wpQuiet_nil ?_
      intro _ hw'
      obtain ⟨⟨dq, osq⟩, hw''⟩ := hw'
      subst hw''
      clear c0 c1 c2 c3 k0 k1 k2 k3 hn he
      go_wp2
      go_ret
      exact ⟨by rw [unhide HT]; rfl, below_call hB0 (below_regrown w1 dq osq)⟩
  · rw [hz] at hn
    have HR := hide (rightT_zero (show zeroT a b c d = true from hz))
    clear hz
    go_enter Tryd.func69, Tryd.ntmps69
    go_wp2_with fail
    generalize w.alloc (.cells #[.int .i64 a, .int .i64 b, .int .i64 c, .int .i64 d] 31) = w1 at va0 hB0 ⊢
    obtain ⟨c0, c1, c2, c3⟩ := va0
    have k0 := cell_regrown c0
    have k1 := cell_regrown c1
    have k2 := cell_regrown c2
    have k3 := cell_regrown c3
    refine wp_region_quiet_below (by kernel_rfl) (by kernel_rfl) ?_
    repeat (quiet_step (fail))
    refine wpQuiet_nil ?_
    intro _ hw'
    obtain ⟨⟨dq, osq⟩, hw''⟩ := hw'
    subst hw''
    clear c0 c1 c2 c3 k0 k1 k2 k3 hn
    go_wp2
    go_ret
    exact ⟨by rw [unhide HR]; rfl, below_call hB0 (below_regrown w1 dq osq)⟩

end Go.Proofs.YtnffnjljjecphaaDoor
