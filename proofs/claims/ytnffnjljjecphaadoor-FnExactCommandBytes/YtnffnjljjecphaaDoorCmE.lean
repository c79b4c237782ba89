/- CommandRight: the program's and the specification's. -/
import Derived.Test.YtnffnjljjecphaaDoorCmD
import Derived.Test.YtnffnjljjecphaaDoorIdB
import Derived.Test.YtnffnjljjecphaaDoorTurnB
namespace Go.Proofs.YtnffnjljjecphaaDoor
open Go.RowKit Go.Sort
set_option linter.unusedVariables false
set_option linter.unusedSimpArgs false

theorem catchR_panicking (u : TypeId) (pv : Value) (older : List PanicEntry) (w : World) :
    CallsD Tryd.prog 33 #[] (.panicking ({ v := .iface u pv, recovered := false } :: older)) w fun e u' w' =>
      e = .returned (.tuple #[]) ∧ u' = .panicking ({ v := .iface u pv, recovered := true } :: older) ∧ w' = w := by
  refine callsD_of_wpS Tryd.func33 rfl fun c₀ cs hu => ?_
  apply wpS_region
  simp [wpOpsS, go_sem, recoverD, hu, Tryd.ntmps33, Exit.thenS, bodyPostS, results, Tryd.results33]
theorem catchR_idle (w : World) :
    CallsD Tryd.prog 33 #[] .returning w fun e u' w' => e = .returned (.tuple #[]) ∧ u' = .returning ∧ w' = w := by
  refine callsD_of_wpS Tryd.func33 rfl fun c₀ cs hu => ?_
  apply wpS_region
  cases c₀
  simp_all [wpOpsS, go_sem, recoverD, Tryd.ntmps33, Exit.thenS, bodyPostS, results, Tryd.results33]

set_option maxHeartbeats 1000000 in
set_option maxRecDepth 100000 in
theorem implCommandRight_any (S : List D3) (kind A B C D wd ht lv fo : Int) (px : ByteArray) (a : Option Addr) (c : Nat) (p : Addr) (w : World) (hn : S.length ≤ 1048576) (hc : S.length ≤ c) (hc9 : c ≤ 9223372036854775807) (hS : Dirs w a S S.length) (hE : ErrCmd p w) :
    Calls Tryd.prog 10 #[.agg #[.int .i64 kind, .int .i64 A, .int .i64 B, .int .i64 C, .int .i64 D, .slice a S.length c, .int .i64 wd, .int .i64 ht, .string px, .int .i64 lv, .int .i64 fo]] w fun e w' => e = .returned (.bool (cmdB ⟨kind, A, B, C, D, S, wd, ht, px, lv, fo⟩)) ∧ Below w.heap.size w w' := by
  have B0 := hide (below1 w (.cells #[.int .i64 kind, .int .i64 A, .int .i64 B, .int .i64 C, .int .i64 D, .slice a S.length c, .int .i64 wd, .int .i64 ht, .string px, .int .i64 lv, .int .i64 fo] 35))
  have cW := hide (wishOf_any S kind A B C D wd ht lv fo px a c p _ hn hc hc9 (hS.kept (unhide B0)) (hE.kept (unhide B0)))
  clear hS hE
  have hmf : ∀ (fn : Fn) (first cap : Array Value) (w : World), (Instr.makeFunc fn first cap).run Tryd.prog w = .ok (.func fn first cap) w := fun _ _ _ _ => rfl
  go_enter_defers Tryd.func10, Tryd.ntmps10
  go_wp2_with fail
  refine (unhide cW).mono ?_
  rintro e w1 ⟨he, hx⟩
  have B1 := hide (below_call (unhide B0) hx)
  clear hx cW B0
  unfold WishEnd at he
  cases hk : cmdB ⟨kind, A, B, C, D, S, wd, ht, px, lv, fo⟩
  · rw [hk] at he
    have he' : e = noCmd p := he
    subst he'
    unfold noCmd
    go_wp2_with fail
    refine leaves_cons (f := 33) (args := #[]) (by simp) (by simp [go_sem]) ?_
    refine (catchR_panicking _ _ [] _).mono ?_
    rintro e u' w'' ⟨rfl, rfl, hw⟩
    subst hw
    simp [Leaves, settle, results, Tryd.results10, go_sem]
    exact ⟨hk, unhide B1⟩
  · rw [hk] at he
    have he' := he
    rw [if_pos rfl] at he'
    subst he'
    go_wp2_with fail
    refine leaves_cons (f := 33) (args := #[]) (by simp) (by simp [go_sem]) ?_
    refine (catchR_idle _).mono ?_
    rintro e u' w'' ⟨rfl, rfl, hw⟩
    subst hw
    simp [Leaves, settle, results, Tryd.results10, go_sem]
    exact ⟨hk, unhide B1⟩

theorem frEq_zero' (wd ht : Int) (px : ByteArray) : frEq wd ht 0 0 px ⟨#[]⟩ = fr0 wd ht px := by
  unfold frEq fr0
  have e : (⟨#[]⟩ : ByteArray).toList = [] := by unfold ByteArray.toList ByteArray.toList.loop; rfl
  rw [e]
theorem noS_int (S : List D3) : ((S.length : Int) == 0) = noS S := by
  unfold noS
  by_cases h : S.length = 0
  · rw [h]; rfl
  · rw [decide_eq_false h]
    simpa using h
theorem lv_dec (x : Int) : (x == 0) = decide (x = 0) := rfl

def zeroFr : Obj := .cells #[.int .i64 0, .int .i64 0, .string ⟨#[]⟩] 33
set_option maxHeartbeats 4000000 in
set_option maxRecDepth 100000 in
theorem specCR_1 (S : List D3) (A B C D wd ht lv fo : Int) (px : ByteArray) (a : Option Addr) (n c : Nat) (hn : S.length = n) (w : World) :
    Calls Tryd.prog 8 #[.agg #[.int .i64 1, .int .i64 A, .int .i64 B, .int .i64 C, .int .i64 D, .slice a n c, .int .i64 wd, .int .i64 ht, .string px, .int .i64 lv, .int .i64 fo]] w fun e w' => e = .returned (.bool (cmdB ⟨1, A, B, C, D, S, wd, ht, px, lv, fo⟩)) ∧ Below w.heap.size w w' := by
  have B0 := hide (below3 w (.cells #[.int .i64 1, .int .i64 A, .int .i64 B, .int .i64 C, .int .i64 D, .slice a n c, .int .i64 wd, .int .i64 ht, .string px, .int .i64 lv, .int .i64 fo] 35) (.cells #[.int .i64 0, .int .i64 0, .int .i64 0, .int .i64 0] 31) (.cells #[.int .i64 0, .int .i64 0, .string ⟨#[]⟩] 33))
  have A0 := hide (((blk_new w [.int .i64 1, .int .i64 A, .int .i64 B, .int .i64 C, .int .i64 D, .slice a n c, .int .i64 wd, .int .i64 ht, .string px, .int .i64 lv, .int .i64 fo] 35).alloc (.cells #[.int .i64 0, .int .i64 0, .int .i64 0, .int .i64 0] 31)).alloc (.cells #[.int .i64 0, .int .i64 0, .string ⟨#[]⟩] 33))
  obtain ⟨y1, e1⟩ : ∃ y, frEq wd ht 0 0 px ⟨#[]⟩ = y := ⟨_, rfl⟩
  obtain ⟨y2, e2⟩ : ∃ y, (lv == 0) = y := ⟨_, rfl⟩
  obtain ⟨y3, e3⟩ : ∃ y, (fo == 0) = y := ⟨_, rfl⟩
  obtain ⟨y4, e4⟩ : ∃ y, eqT A B C D 0 0 0 0 = y := ⟨_, rfl⟩
  obtain ⟨y5, e5⟩ : ∃ y, ((n : Int) == 0) = y := ⟨_, rfl⟩
  have HO : Hid (cmdB ⟨1, A, B, C, D, S, wd, ht, px, lv, fo⟩ = (y4 && y5 && (y1 && y2 && y3))) := hide (by
    rw [cmd_1 rfl, ← e1, ← e2, ← e3, ← e4, ← e5, ← hn]
    unfold tz bareB
    dsimp only
    rw [frEq_zero', noS_int, lv_dec, lv_dec])
  have x1 : ∀ W : World, (binOp .eql 33 (.agg #[.int .i64 wd, .int .i64 ht, .string px]) (.agg #[.int .i64 0, .int .i64 0, .string ⟨#[]⟩])).run Tryd.prog W = .ok (.bool y1) W := fun W => by rw [eql_frame, e1]
  have x4 : ∀ W : World, (binOp .eql 31 (.agg #[.int .i64 A, .int .i64 B, .int .i64 C, .int .i64 D]) (.agg #[.int .i64 0, .int .i64 0, .int .i64 0, .int .i64 0])).run Tryd.prog W = .ok (.bool y4) W := fun W => by rw [eql_turn, e4]
  clear e1 e4 hn
  go_enter Tryd.func8, Tryd.ntmps8
  go_wp2_with fail
  all_goals (go_ret; exact ⟨by rw [unhide HO]; simp [*], unhide B0⟩)
set_option maxHeartbeats 4000000 in
set_option maxRecDepth 100000 in
theorem specCR_2 (S : List D3) (A B C D wd ht lv fo : Int) (px : ByteArray) (a : Option Addr) (n c : Nat) (hn : S.length = n) (w : World) :
    Calls Tryd.prog 8 #[.agg #[.int .i64 2, .int .i64 A, .int .i64 B, .int .i64 C, .int .i64 D, .slice a n c, .int .i64 wd, .int .i64 ht, .string px, .int .i64 lv, .int .i64 fo]] w fun e w' => e = .returned (.bool (cmdB ⟨2, A, B, C, D, S, wd, ht, px, lv, fo⟩)) ∧ Below w.heap.size w w' := by
  have B0 := hide (below3 w (.cells #[.int .i64 2, .int .i64 A, .int .i64 B, .int .i64 C, .int .i64 D, .slice a n c, .int .i64 wd, .int .i64 ht, .string px, .int .i64 lv, .int .i64 fo] 35) (.cells #[.int .i64 0, .int .i64 0, .int .i64 0, .int .i64 0] 31) (.cells #[.int .i64 0, .int .i64 0, .string ⟨#[]⟩] 33))
  have A0 := hide (((blk_new w [.int .i64 2, .int .i64 A, .int .i64 B, .int .i64 C, .int .i64 D, .slice a n c, .int .i64 wd, .int .i64 ht, .string px, .int .i64 lv, .int .i64 fo] 35).alloc (.cells #[.int .i64 0, .int .i64 0, .int .i64 0, .int .i64 0] 31)).alloc (.cells #[.int .i64 0, .int .i64 0, .string ⟨#[]⟩] 33))
  obtain ⟨y1, e1⟩ : ∃ y, frEq wd ht 0 0 px ⟨#[]⟩ = y := ⟨_, rfl⟩
  obtain ⟨y2, e2⟩ : ∃ y, (lv == 0) = y := ⟨_, rfl⟩
  obtain ⟨y3, e3⟩ : ∃ y, (fo == 0) = y := ⟨_, rfl⟩
  obtain ⟨y4, e4⟩ : ∃ y, eqT A B C D 0 0 0 0 = y := ⟨_, rfl⟩
  obtain ⟨y5, e5⟩ : ∃ y, ((n : Int) == 0) = y := ⟨_, rfl⟩
  have HO : Hid (cmdB ⟨2, A, B, C, D, S, wd, ht, px, lv, fo⟩ = (rightT A B C D && y5 && (y1 && y2 && y3))) := hide (by
    rw [cmd_2 rfl]
    simp only [← e1, ← e2, ← e3, ← e4, ← e5, ← hn]
    unfold bareB
    dsimp only
    rw [frEq_zero', noS_int, lv_dec, lv_dec])
  have x1 : ∀ W : World, (binOp .eql 33 (.agg #[.int .i64 wd, .int .i64 ht, .string px]) (.agg #[.int .i64 0, .int .i64 0, .string ⟨#[]⟩])).run Tryd.prog W = .ok (.bool y1) W := fun W => by rw [eql_frame, e1]
  have x4 : ∀ W : World, (binOp .eql 31 (.agg #[.int .i64 A, .int .i64 B, .int .i64 C, .int .i64 D]) (.agg #[.int .i64 0, .int .i64 0, .int .i64 0, .int .i64 0])).run Tryd.prog W = .ok (.bool y4) W := fun W => by rw [eql_turn, e4]
  clear e1 e4 hn
  go_enter Tryd.func8, Tryd.ntmps8
  go_wp2_with fail
  all_goals
    refine (specTRight_any A B C D _).mono ?_
    rintro e w1 ⟨rfl, hx⟩
    have A1 := hide ((unhide A0).kept hx)
    have B1 := hide (below_call (unhide B0) hx)
    clear hx A0 B0
    have q0 := (unhide A1).cell 0 _ rfl
    have q1 := (unhide A1).cell 1 _ rfl
    have q2 := (unhide A1).cell 2 _ rfl
    have q3 := (unhide A1).cell 3 _ rfl
    have q4 := (unhide A1).cell 4 _ rfl
    have q5 := (unhide A1).cell 5 _ rfl
    have q6 := (unhide A1).cell 6 _ rfl
    have q7 := (unhide A1).cell 7 _ rfl
    have q8 := (unhide A1).cell 8 _ rfl
    have q9 := (unhide A1).cell 9 _ rfl
    have q10 := (unhide A1).cell 10 _ rfl
    cases hr : rightT A B C D
    all_goals
      rw [hr] at HO
      go_wp2_with fail
      all_goals (go_ret; exact ⟨by rw [unhide HO]; simp [*], unhide B1⟩)
set_option maxHeartbeats 4000000 in
set_option maxRecDepth 100000 in
theorem specCR_3 (S : List D3) (A B C D wd ht lv fo : Int) (px : ByteArray) (a : Option Addr) (n c : Nat) (hn : S.length = n) (w : World) (hl : n ≤ 1048576) (hS : Dirs w a S n) :
    Calls Tryd.prog 8 #[.agg #[.int .i64 3, .int .i64 A, .int .i64 B, .int .i64 C, .int .i64 D, .slice a n c, .int .i64 wd, .int .i64 ht, .string px, .int .i64 lv, .int .i64 fo]] w fun e w' => e = .returned (.bool (cmdB ⟨3, A, B, C, D, S, wd, ht, px, lv, fo⟩)) ∧ Below w.heap.size w w' := by
  have B0 := hide (below3 w (.cells #[.int .i64 3, .int .i64 A, .int .i64 B, .int .i64 C, .int .i64 D, .slice a n c, .int .i64 wd, .int .i64 ht, .string px, .int .i64 lv, .int .i64 fo] 35) (.cells #[.int .i64 0, .int .i64 0, .int .i64 0, .int .i64 0] 31) (.cells #[.int .i64 0, .int .i64 0, .string ⟨#[]⟩] 33))
  have A0 := hide (((blk_new w [.int .i64 3, .int .i64 A, .int .i64 B, .int .i64 C, .int .i64 D, .slice a n c, .int .i64 wd, .int .i64 ht, .string px, .int .i64 lv, .int .i64 fo] 35).alloc (.cells #[.int .i64 0, .int .i64 0, .int .i64 0, .int .i64 0] 31)).alloc (.cells #[.int .i64 0, .int .i64 0, .string ⟨#[]⟩] 33))
  obtain ⟨y1, e1⟩ : ∃ y, frEq wd ht 0 0 px ⟨#[]⟩ = y := ⟨_, rfl⟩
  obtain ⟨y2, e2⟩ : ∃ y, (lv == 0) = y := ⟨_, rfl⟩
  obtain ⟨y3, e3⟩ : ∃ y, (fo == 0) = y := ⟨_, rfl⟩
  obtain ⟨y4, e4⟩ : ∃ y, eqT A B C D 0 0 0 0 = y := ⟨_, rfl⟩
  obtain ⟨y5, e5⟩ : ∃ y, ((n : Int) == 0) = y := ⟨_, rfl⟩
  have HO : Hid (cmdB ⟨3, A, B, C, D, S, wd, ht, px, lv, fo⟩ = (y4 && spotsB S && (y1 && y2 && y3))) := hide (by
    rw [cmd_3 rfl]
    simp only [← e1, ← e2, ← e3, ← e4, ← e5, ← hn]
    unfold tz bareB
    dsimp only
    rw [frEq_zero', lv_dec, lv_dec])
  have x1 : ∀ W : World, (binOp .eql 33 (.agg #[.int .i64 wd, .int .i64 ht, .string px]) (.agg #[.int .i64 0, .int .i64 0, .string ⟨#[]⟩])).run Tryd.prog W = .ok (.bool y1) W := fun W => by rw [eql_frame, e1]
  have x4 : ∀ W : World, (binOp .eql 31 (.agg #[.int .i64 A, .int .i64 B, .int .i64 C, .int .i64 D]) (.agg #[.int .i64 0, .int .i64 0, .int .i64 0, .int .i64 0])).run Tryd.prog W = .ok (.bool y4) W := fun W => by rw [eql_turn, e4]
  have cP : Hid (∀ W : World, Below w.heap.size w W → Calls Tryd.prog 27 #[.slice a n c] W fun e w' => e = .returned (.bool (spotsB S)) ∧ Below W.heap.size W w') := hide (fun W hW => by subst hn; exact specSpotsRight_any S a c W hl (hS.kept hW))
  clear e1 e4 hn hS
  cases y4
  · skip
    go_enter Tryd.func8, Tryd.ntmps8
    go_wp2_with fail
    all_goals (go_ret; exact ⟨by rw [unhide HO]; simp [*], unhide B0⟩)
  go_enter Tryd.func8, Tryd.ntmps8
  go_wp2_with fail
  all_goals
    refine (unhide cP _ (unhide B0)).mono ?_
    rintro e w1 ⟨rfl, hx⟩
    have A1 := hide ((unhide A0).kept hx)
    have B1 := hide (below_call (unhide B0) hx)
    clear hx A0 B0
    cases hr : spotsB S
    all_goals
      rw [hr] at HO
      go_wp2_with fail
      all_goals (go_ret; exact ⟨by rw [unhide HO]; simp [*], unhide B1⟩)
set_option maxHeartbeats 4000000 in
set_option maxRecDepth 100000 in
theorem specCR_4 (S : List D3) (A B C D wd ht lv fo : Int) (px : ByteArray) (a : Option Addr) (n c : Nat) (hn : S.length = n) (w : World) :
    Calls Tryd.prog 8 #[.agg #[.int .i64 4, .int .i64 A, .int .i64 B, .int .i64 C, .int .i64 D, .slice a n c, .int .i64 wd, .int .i64 ht, .string px, .int .i64 lv, .int .i64 fo]] w fun e w' => e = .returned (.bool (cmdB ⟨4, A, B, C, D, S, wd, ht, px, lv, fo⟩)) ∧ Below w.heap.size w w' := by
  have B0 := hide (below3 w (.cells #[.int .i64 4, .int .i64 A, .int .i64 B, .int .i64 C, .int .i64 D, .slice a n c, .int .i64 wd, .int .i64 ht, .string px, .int .i64 lv, .int .i64 fo] 35) (.cells #[.int .i64 0, .int .i64 0, .int .i64 0, .int .i64 0] 31) (.cells #[.int .i64 0, .int .i64 0, .string ⟨#[]⟩] 33))
  have A0 := hide (((blk_new w [.int .i64 4, .int .i64 A, .int .i64 B, .int .i64 C, .int .i64 D, .slice a n c, .int .i64 wd, .int .i64 ht, .string px, .int .i64 lv, .int .i64 fo] 35).alloc (.cells #[.int .i64 0, .int .i64 0, .int .i64 0, .int .i64 0] 31)).alloc (.cells #[.int .i64 0, .int .i64 0, .string ⟨#[]⟩] 33))
  obtain ⟨y1, e1⟩ : ∃ y, frEq wd ht 0 0 px ⟨#[]⟩ = y := ⟨_, rfl⟩
  obtain ⟨y2, e2⟩ : ∃ y, (lv == 0) = y := ⟨_, rfl⟩
  obtain ⟨y3, e3⟩ : ∃ y, (fo == 0) = y := ⟨_, rfl⟩
  obtain ⟨y4, e4⟩ : ∃ y, eqT A B C D 0 0 0 0 = y := ⟨_, rfl⟩
  obtain ⟨y5, e5⟩ : ∃ y, ((n : Int) == 0) = y := ⟨_, rfl⟩
  have HO : Hid (cmdB ⟨4, A, B, C, D, S, wd, ht, px, lv, fo⟩ = (y4 && y5 && frameB wd ht px && spanB 0 255 lv && spanB 1 40 fo)) := hide (by
    rw [cmd_4 rfl]
    simp only [← e1, ← e2, ← e3, ← e4, ← e5, ← hn]
    unfold tz
    dsimp only
    rw [noS_int])
  have x1 : ∀ W : World, (binOp .eql 33 (.agg #[.int .i64 wd, .int .i64 ht, .string px]) (.agg #[.int .i64 0, .int .i64 0, .string ⟨#[]⟩])).run Tryd.prog W = .ok (.bool y1) W := fun W => by rw [eql_frame, e1]
  have x4 : ∀ W : World, (binOp .eql 31 (.agg #[.int .i64 A, .int .i64 B, .int .i64 C, .int .i64 D]) (.agg #[.int .i64 0, .int .i64 0, .int .i64 0, .int .i64 0])).run Tryd.prog W = .ok (.bool y4) W := fun W => by rw [eql_turn, e4]
  clear e1 e4 hn
  cases y4
  · skip
    go_enter Tryd.func8, Tryd.ntmps8
    go_wp2_with fail
    all_goals (go_ret; exact ⟨by rw [unhide HO]; simp [*], unhide B0⟩)
  cases y5
  · skip
    go_enter Tryd.func8, Tryd.ntmps8
    go_wp2_with fail
    all_goals (go_ret; exact ⟨by rw [unhide HO]; simp [*], unhide B0⟩)
  go_enter Tryd.func8, Tryd.ntmps8
  go_wp2_with fail
  all_goals
    refine (specFrameRight_any wd ht px _).mono ?_
    rintro e w1 ⟨rfl, hx⟩
    have A1 := hide ((unhide A0).kept hx)
    have B1 := hide (below_call (unhide B0) hx)
    clear hx A0 B0
    have q0 := (unhide A1).cell 0 _ rfl
    have q1 := (unhide A1).cell 1 _ rfl
    have q2 := (unhide A1).cell 2 _ rfl
    have q3 := (unhide A1).cell 3 _ rfl
    have q4 := (unhide A1).cell 4 _ rfl
    have q5 := (unhide A1).cell 5 _ rfl
    have q6 := (unhide A1).cell 6 _ rfl
    have q7 := (unhide A1).cell 7 _ rfl
    have q8 := (unhide A1).cell 8 _ rfl
    have q9 := (unhide A1).cell 9 _ rfl
    have q10 := (unhide A1).cell 10 _ rfl
    cases hr : frameB wd ht px
    · rw [hr] at HO
      go_wp2_with fail
      all_goals (go_ret; exact ⟨by rw [unhide HO]; simp [*], unhide B1⟩)
    rw [hr] at HO
    go_wp2_with fail
    refine (l02Is_any lv 0 255 _).mono ?_
    rintro e w2 ⟨rfl, hw⟩
    rw [hw]
    clear hw w2
    have el : (decide (0 ≤ lv) && decide (lv ≤ 255)) = spanB 0 255 lv := rfl
    rw [el]
    cases hs : spanB 0 255 lv
    · rw [hs] at HO
      go_wp2_with fail
      all_goals (go_ret; exact ⟨by rw [unhide HO]; simp [*], unhide B1⟩)
    rw [hs] at HO
    go_wp2_with fail
    refine (l02Is_any fo 1 40 _).mono ?_
    rintro e w2 ⟨rfl, hw⟩
    rw [hw]
    clear hw w2
    have ef : (decide (1 ≤ fo) && decide (fo ≤ 40)) = spanB 1 40 fo := rfl
    rw [ef]
    go_wp2_with fail
    go_ret
    exact ⟨by rw [unhide HO]; simp, unhide B1⟩
set_option maxHeartbeats 4000000 in
set_option maxRecDepth 100000 in
theorem specCR_n (S : List D3) (kind A B C D wd ht lv fo : Int) (px : ByteArray) (a : Option Addr) (n c : Nat) (hn : S.length = n) (w : World) (h1 : kind ≠ 1) (h2 : kind ≠ 2) (h3 : kind ≠ 3) (h4 : kind ≠ 4) :
    Calls Tryd.prog 8 #[.agg #[.int .i64 kind, .int .i64 A, .int .i64 B, .int .i64 C, .int .i64 D, .slice a n c, .int .i64 wd, .int .i64 ht, .string px, .int .i64 lv, .int .i64 fo]] w fun e w' => e = .returned (.bool (cmdB ⟨kind, A, B, C, D, S, wd, ht, px, lv, fo⟩)) ∧ Below w.heap.size w w' := by
  have B0 := hide (below3 w (.cells #[.int .i64 kind, .int .i64 A, .int .i64 B, .int .i64 C, .int .i64 D, .slice a n c, .int .i64 wd, .int .i64 ht, .string px, .int .i64 lv, .int .i64 fo] 35) (.cells #[.int .i64 0, .int .i64 0, .int .i64 0, .int .i64 0] 31) (.cells #[.int .i64 0, .int .i64 0, .string ⟨#[]⟩] 33))
  have A0 := hide (((blk_new w [.int .i64 kind, .int .i64 A, .int .i64 B, .int .i64 C, .int .i64 D, .slice a n c, .int .i64 wd, .int .i64 ht, .string px, .int .i64 lv, .int .i64 fo] 35).alloc (.cells #[.int .i64 0, .int .i64 0, .int .i64 0, .int .i64 0] 31)).alloc (.cells #[.int .i64 0, .int .i64 0, .string ⟨#[]⟩] 33))
  obtain ⟨y1, e1⟩ : ∃ y, frEq wd ht 0 0 px ⟨#[]⟩ = y := ⟨_, rfl⟩
  obtain ⟨y2, e2⟩ : ∃ y, (lv == 0) = y := ⟨_, rfl⟩
  obtain ⟨y3, e3⟩ : ∃ y, (fo == 0) = y := ⟨_, rfl⟩
  obtain ⟨y4, e4⟩ : ∃ y, eqT A B C D 0 0 0 0 = y := ⟨_, rfl⟩
  obtain ⟨y5, e5⟩ : ∃ y, ((n : Int) == 0) = y := ⟨_, rfl⟩
  have HO : Hid (cmdB ⟨kind, A, B, C, D, S, wd, ht, px, lv, fo⟩ = false) := hide (cmd_n h1 h2 h3 h4)
  have x1 : ∀ W : World, (binOp .eql 33 (.agg #[.int .i64 wd, .int .i64 ht, .string px]) (.agg #[.int .i64 0, .int .i64 0, .string ⟨#[]⟩])).run Tryd.prog W = .ok (.bool y1) W := fun W => by rw [eql_frame, e1]
  have x4 : ∀ W : World, (binOp .eql 31 (.agg #[.int .i64 A, .int .i64 B, .int .i64 C, .int .i64 D]) (.agg #[.int .i64 0, .int .i64 0, .int .i64 0, .int .i64 0])).run Tryd.prog W = .ok (.bool y4) W := fun W => by rw [eql_turn, e4]
  clear e1 e4 hn
  go_enter Tryd.func8, Tryd.ntmps8
  go_wp2_with fail
  all_goals (go_ret; exact ⟨by rw [unhide HO]; simp [*], unhide B0⟩)
theorem specCommandRight_any (S : List D3) (kind A B C D wd ht lv fo : Int) (px : ByteArray) (a : Option Addr) (c : Nat) (w : World) (hn : S.length ≤ 1048576) (hS : Dirs w a S S.length) :
    Calls Tryd.prog 8 #[.agg #[.int .i64 kind, .int .i64 A, .int .i64 B, .int .i64 C, .int .i64 D, .slice a S.length c, .int .i64 wd, .int .i64 ht, .string px, .int .i64 lv, .int .i64 fo]] w fun e w' => e = .returned (.bool (cmdB ⟨kind, A, B, C, D, S, wd, ht, px, lv, fo⟩)) ∧ Below w.heap.size w w' := by
  by_cases h1 : kind = 1
  · subst h1; exact specCR_1 S A B C D wd ht lv fo px a _ c rfl w
  by_cases h2 : kind = 2
  · subst h2; exact specCR_2 S A B C D wd ht lv fo px a _ c rfl w
  by_cases h3 : kind = 3
  · subst h3; exact specCR_3 S A B C D wd ht lv fo px a _ c rfl w hn hS
  by_cases h4 : kind = 4
  · subst h4; exact specCR_4 S A B C D wd ht lv fo px a _ c rfl w
  exact specCR_n S kind A B C D wd ht lv fo px a _ c rfl w h1 h2 h3 h4
end Go.Proofs.YtnffnjljjecphaaDoor
