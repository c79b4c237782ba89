/- Several texts in one: CmE, NumT, PutText, CmG, CmGb. -/
import Derived.Lib.QuietBelow
import Derived.Test.YtnffnjljjecphaaDoorQCommandReadOwn7
import Derived.Test.YtnffnjljjecphaaDoorQCommandReadOwn4
import Derived.Test.YtnffnjljjecphaaDoorQCommandReadOwn6
import Derived.Test.YtnffnjljjecphaaDoorQCommandReadOwn2
import Derived.Test.YtnffnjljjecphaaDoorQCommandReadOwn12
import Derived.Test.YtnffnjljjecphaaDoorQCommandReadOwn11
namespace Go.Proofs.YtnffnjljjecphaaDoor
open Go.RowKit Go.Sort
set_option linter.unusedVariables false
set_option linter.unusedSimpArgs false

theorem catchR_panicking (u : TypeId) (pv : Value) (older : List PanicEntry) (w : World) :
    CallsD Tryd.prog 33 #[] (.panicking ({ v := .iface u pv, recovered := false } :: older)) w fun e u' w' =>
      e = .returned (.tuple #[]) ∧ u' = .panicking ({ v := .iface u pv, recovered := true } :: older) ∧ w' = w := by
  refine callsD_of_wpS Tryd.func33 rfl fun c₀ cs hu => ?_
  apply wpS_region
  simp [wpOpsS, go_sem, recoverD, hu, Tryd.ntmps33, Exit.thenS, bodyPostS, results, Tryd.results33]
theorem catchR_idle (w : World) :
    CallsD Tryd.prog 33 #[] .returning w fun e u' w' => e = .returned (.tuple #[]) ∧ u' = .returning ∧ w' = w := by
  refine callsD_of_wpS Tryd.func33 rfl fun c₀ cs hu => ?_
  apply wpS_region
  cases c₀
  simp_all [wpOpsS, go_sem, recoverD, Tryd.ntmps33, Exit.thenS, bodyPostS, results, Tryd.results33]

set_option maxHeartbeats 1000000 in
set_option maxRecDepth 100000 in
theorem implCommandRight_any (S : List D3) (kind A B C D wd ht lv fo : Int) (px : ByteArray) (a : Option Addr) (c : Nat) (p : Addr) (w : World) (hn : S.length ≤ 1048576) (hc : S.length ≤ c) (hc9 : c ≤ 9223372036854775807) (hS : Dirs w a S S.length) (hE : ErrCmd p w) :
    Calls Tryd.prog 10 #[.agg #[.int .i64 kind, .int .i64 A, .int .i64 B, .int .i64 C, .int .i64 D, .slice a S.length c, .int .i64 wd, .int .i64 ht, .string px, .int .i64 lv, .int .i64 fo]] w fun e w' => e = .returned (.bool (cmdB ⟨kind, A, B, C, D, S, wd, ht, px, lv, fo⟩)) ∧ Below w.heap.size w w' := by
  have B0 := hide (below1 w (.cells #[.int .i64 kind, .int .i64 A, .int .i64 B, .int .i64 C, .int .i64 D, .slice a S.length c, .int .i64 wd, .int .i64 ht, .string px, .int .i64 lv, .int .i64 fo] 35))
  have cW := hide (wishOf_any S kind A B C D wd ht lv fo px a c p _ hn hc hc9 (hS.kept (unhide B0)) (hE.kept (unhide B0)))
  clear hS hE
  have hmf : ∀ (fn : Fn) (first cap : Array Value) (w : World), (Instr.makeFunc fn first cap).run Tryd.prog w = .ok (.func fn first cap) w := fun _ _ _ _ => rfl
  go_enter_defers Tryd.func10, Tryd.ntmps10
  go_wp2_with fail
  refine (unhide cW).mono ?_
  rintro e w1 ⟨he, hx⟩
  have B1 := hide (below_call (unhide B0) hx)
  clear hx cW B0
  unfold WishEnd at he
  cases hk : cmdB ⟨kind, A, B, C, D, S, wd, ht, px, lv, fo⟩
  · rw [hk] at he
    have he' : e = noCmd p := he
    subst he'
    unfold noCmd
    go_wp2_with fail
    refine leaves_cons (f := 33) (args := #[]) (by simp) (by simp [go_sem]) ?_
    refine (catchR_panicking _ _ [] _).mono ?_
    rintro e u' w'' ⟨rfl, rfl, hw⟩
    subst hw
    simp [Leaves, settle, results, Tryd.results10, go_sem]
    exact ⟨hk, unhide B1⟩
  · rw [hk] at he
    have he' := he
    rw [if_pos rfl] at he'
    subst he'
    go_wp2_with fail
    refine leaves_cons (f := 33) (args := #[]) (by simp) (by simp [go_sem]) ?_
    refine (catchR_idle _).mono ?_
    rintro e u' w'' ⟨rfl, rfl, hw⟩
    subst hw
    simp [Leaves, settle, results, Tryd.results10, go_sem]
    exact ⟨hk, unhide B1⟩

theorem frEq_zero' (wd ht : Int) (px : ByteArray) : frEq wd ht 0 0 px ⟨#[]⟩ = fr0 wd ht px := by
  unfold frEq fr0
  have e : (⟨#[]⟩ : ByteArray).toList = [] := by unfold ByteArray.toList ByteArray.toList.loop; rfl
  rw [e]
theorem noS_int (S : List D3) : ((S.length : Int) == 0) = noS S := by
  unfold noS
  by_cases h : S.length = 0
  · rw [h]; rfl
  · rw [decide_eq_false h]
    simpa using h
theorem lv_dec (x : Int) : (x == 0) = decide (x = 0) := rfl

def zeroFr : Obj := .cells #[.int .i64 0, .int .i64 0, .string ⟨#[]⟩] 33
set_option maxHeartbeats 4000000 in
set_option maxRecDepth 100000 in
theorem specCR_1 (S : List D3) (A B C D wd ht lv fo : Int) (px : ByteArray) (a : Option Addr) (n c : Nat) (hn : S.length = n) (w : World) :
    Calls Tryd.prog 8 #[.agg #[.int .i64 1, .int .i64 A, .int .i64 B, .int .i64 C, .int .i64 D, .slice a n c, .int .i64 wd, .int .i64 ht, .string px, .int .i64 lv, .int .i64 fo]] w fun e w' => e = .returned (.bool (cmdB ⟨1, A, B, C, D, S, wd, ht, px, lv, fo⟩)) ∧ Below w.heap.size w w' := by
  have B0 := hide (below3 w (.cells #[.int .i64 1, .int .i64 A, .int .i64 B, .int .i64 C, .int .i64 D, .slice a n c, .int .i64 wd, .int .i64 ht, .string px, .int .i64 lv, .int .i64 fo] 35) (.cells #[.int .i64 0, .int .i64 0, .int .i64 0, .int .i64 0] 31) (.cells #[.int .i64 0, .int .i64 0, .string ⟨#[]⟩] 33))
  have A0 := hide (((blk_new w [.int .i64 1, .int .i64 A, .int .i64 B, .int .i64 C, .int .i64 D, .slice a n c, .int .i64 wd, .int .i64 ht, .string px, .int .i64 lv, .int .i64 fo] 35).alloc (.cells #[.int .i64 0, .int .i64 0, .int .i64 0, .int .i64 0] 31)).alloc (.cells #[.int .i64 0, .int .i64 0, .string ⟨#[]⟩] 33))
  obtain ⟨y1, e1⟩ : ∃ y, frEq wd ht 0 0 px ⟨#[]⟩ = y := ⟨_, rfl⟩
  obtain ⟨y2, e2⟩ : ∃ y, (lv == 0) = y := ⟨_, rfl⟩
  obtain ⟨y3, e3⟩ : ∃ y, (fo == 0) = y := ⟨_, rfl⟩
  obtain ⟨y4, e4⟩ : ∃ y, eqT A B C D 0 0 0 0 = y := ⟨_, rfl⟩
  obtain ⟨y5, e5⟩ : ∃ y, ((n : Int) == 0) = y := ⟨_, rfl⟩
  have HO : Hid (cmdB ⟨1, A, B, C, D, S, wd, ht, px, lv, fo⟩ = (y4 && y5 && (y1 && y2 && y3))) := hide (by
    rw [cmd_1 rfl, ← e1, ← e2, ← e3, ← e4, ← e5, ← hn]
    unfold tz bareB
    dsimp only
    rw [frEq_zero', noS_int, lv_dec, lv_dec])
  have x1 : ∀ W : World, (binOp .eql 33 (.agg #[.int .i64 wd, .int .i64 ht, .string px]) (.agg #[.int .i64 0, .int .i64 0, .string ⟨#[]⟩])).run Tryd.prog W = .ok (.bool y1) W := fun W => by rw [eql_frame, e1]
  have x4 : ∀ W : World, (binOp .eql 31 (.agg #[.int .i64 A, .int .i64 B, .int .i64 C, .int .i64 D]) (.agg #[.int .i64 0, .int .i64 0, .int .i64 0, .int .i64 0])).run Tryd.prog W = .ok (.bool y4) W := fun W => by rw [eql_turn, e4]
  clear e1 e4 hn
  go_enter Tryd.func8, Tryd.ntmps8
  go_wp2_with fail
  all_goals (go_ret; exact ⟨by rw [unhide HO]; simp [*], unhide B0⟩)
set_option maxHeartbeats 4000000 in
set_option maxRecDepth 100000 in
theorem specCR_2 (S : List D3) (A B C D wd ht lv fo : Int) (px : ByteArray) (a : Option Addr) (n c : Nat) (hn : S.length = n) (w : World) :
    Calls Tryd.prog 8 #[.agg #[.int .i64 2, .int .i64 A, .int .i64 B, .int .i64 C, .int .i64 D, .slice a n c, .int .i64 wd, .int .i64 ht, .string px, .int .i64 lv, .int .i64 fo]] w fun e w' => e = .returned (.bool (cmdB ⟨2, A, B, C, D, S, wd, ht, px, lv, fo⟩)) ∧ Below w.heap.size w w' := by
  have B0 := hide (below3 w (.cells #[.int .i64 2, .int .i64 A, .int .i64 B, .int .i64 C, .int .i64 D, .slice a n c, .int .i64 wd, .int .i64 ht, .string px, .int .i64 lv, .int .i64 fo] 35) (.cells #[.int .i64 0, .int .i64 0, .int .i64 0, .int .i64 0] 31) (.cells #[.int .i64 0, .int .i64 0, .string ⟨#[]⟩] 33))
  have A0 := hide (((blk_new w [.int .i64 2, .int .i64 A, .int .i64 B, .int .i64 C, .int .i64 D, .slice a n c, .int .i64 wd, .int .i64 ht, .string px, .int .i64 lv, .int .i64 fo] 35).alloc (.cells #[.int .i64 0, .int .i64 0, .int .i64 0, .int .i64 0] 31)).alloc (.cells #[.int .i64 0, .int .i64 0, .string ⟨#[]⟩] 33))
  obtain ⟨y1, e1⟩ : ∃ y, frEq wd ht 0 0 px ⟨#[]⟩ = y := ⟨_, rfl⟩
  obtain ⟨y2, e2⟩ : ∃ y, (lv == 0) = y := ⟨_, rfl⟩
  obtain ⟨y3, e3⟩ : ∃ y, (fo == 0) = y := ⟨_, rfl⟩
  obtain ⟨y4, e4⟩ : ∃ y, eqT A B C D 0 0 0 0 = y := ⟨_, rfl⟩
  obtain ⟨y5, e5⟩ : ∃ y, ((n : Int) == 0) = y := ⟨_, rfl⟩
  have HO : Hid (cmdB ⟨2, A, B, C, D, S, wd, ht, px, lv, fo⟩ = (rightT A B C D && y5 && (y1 && y2 && y3))) := hide (by
    rw [cmd_2 rfl]
    simp only [← e1, ← e2, ← e3, ← e4, ← e5, ← hn]
    unfold bareB
    dsimp only
    rw [frEq_zero', noS_int, lv_dec, lv_dec])
  have x1 : ∀ W : World, (binOp .eql 33 (.agg #[.int .i64 wd, .int .i64 ht, .string px]) (.agg #[.int .i64 0, .int .i64 0, .string ⟨#[]⟩])).run Tryd.prog W = .ok (.bool y1) W := fun W => by rw [eql_frame, e1]
  have x4 : ∀ W : World, (binOp .eql 31 (.agg #[.int .i64 A, .int .i64 B, .int .i64 C, .int .i64 D]) (.agg #[.int .i64 0, .int .i64 0, .int .i64 0, .int .i64 0])).run Tryd.prog W = .ok (.bool y4) W := fun W => by rw [eql_turn, e4]
  clear e1 e4 hn
  go_enter Tryd.func8, Tryd.ntmps8
  go_wp2_with fail
  all_goals
    refine (specTRight_any A B C D _).mono ?_
    rintro e w1 ⟨rfl, hx⟩
    have A1 := hide ((unhide A0).kept hx)
    have B1 := hide (below_call (unhide B0) hx)
    clear hx A0 B0
    have q0 := (unhide A1).cell 0 _ rfl
    have q1 := (unhide A1).cell 1 _ rfl
    have q2 := (unhide A1).cell 2 _ rfl
    have q3 := (unhide A1).cell 3 _ rfl
    have q4 := (unhide A1).cell 4 _ rfl
    have q5 := (unhide A1).cell 5 _ rfl
    have q6 := (unhide A1).cell 6 _ rfl
    have q7 := (unhide A1).cell 7 _ rfl
    have q8 := (unhide A1).cell 8 _ rfl
    have q9 := (unhide A1).cell 9 _ rfl
    have q10 := (unhide A1).cell 10 _ rfl
    cases hr : rightT A B C D
    all_goals
      rw [hr] at HO
      go_wp2_with fail
      all_goals (go_ret; exact ⟨by rw [unhide HO]; simp [*], unhide B1⟩)
set_option maxHeartbeats 4000000 in
set_option maxRecDepth 100000 in
theorem specCR_3 (S : List D3) (A B C D wd ht lv fo : Int) (px : ByteArray) (a : Option Addr) (n c : Nat) (hn : S.length = n) (w : World) (hl : n ≤ 1048576) (hS : Dirs w a S n) :
    Calls Tryd.prog 8 #[.agg #[.int .i64 3, .int .i64 A, .int .i64 B, .int .i64 C, .int .i64 D, .slice a n c, .int .i64 wd, .int .i64 ht, .string px, .int .i64 lv, .int .i64 fo]] w fun e w' => e = .returned (.bool (cmdB ⟨3, A, B, C, D, S, wd, ht, px, lv, fo⟩)) ∧ Below w.heap.size w w' := by
  have B0 := hide (below3 w (.cells #[.int .i64 3, .int .i64 A, .int .i64 B, .int .i64 C, .int .i64 D, .slice a n c, .int .i64 wd, .int .i64 ht, .string px, .int .i64 lv, .int .i64 fo] 35) (.cells #[.int .i64 0, .int .i64 0, .int .i64 0, .int .i64 0] 31) (.cells #[.int .i64 0, .int .i64 0, .string ⟨#[]⟩] 33))
  have A0 := hide (((blk_new w [.int .i64 3, .int .i64 A, .int .i64 B, .int .i64 C, .int .i64 D, .slice a n c, .int .i64 wd, .int .i64 ht, .string px, .int .i64 lv, .int .i64 fo] 35).alloc (.cells #[.int .i64 0, .int .i64 0, .int .i64 0, .int .i64 0] 31)).alloc (.cells #[.int .i64 0, .int .i64 0, .string ⟨#[]⟩] 33))
  obtain ⟨y1, e1⟩ : ∃ y, frEq wd ht 0 0 px ⟨#[]⟩ = y := ⟨_, rfl⟩
  obtain ⟨y2, e2⟩ : ∃ y, (lv == 0) = y := ⟨_, rfl⟩
  obtain ⟨y3, e3⟩ : ∃ y, (fo == 0) = y := ⟨_, rfl⟩
  obtain ⟨y4, e4⟩ : ∃ y, eqT A B C D 0 0 0 0 = y := ⟨_, rfl⟩
  obtain ⟨y5, e5⟩ : ∃ y, ((n : Int) == 0) = y := ⟨_, rfl⟩
  have HO : Hid (cmdB ⟨3, A, B, C, D, S, wd, ht, px, lv, fo⟩ = (y4 && spotsB S && (y1 && y2 && y3))) := hide (by
    rw [cmd_3 rfl]
    simp only [← e1, ← e2, ← e3, ← e4, ← e5, ← hn]
    unfold tz bareB
    dsimp only
    rw [frEq_zero', lv_dec, lv_dec])
  have x1 : ∀ W : World, (binOp .eql 33 (.agg #[.int .i64 wd, .int .i64 ht, .string px]) (.agg #[.int .i64 0, .int .i64 0, .string ⟨#[]⟩])).run Tryd.prog W = .ok (.bool y1) W := fun W => by rw [eql_frame, e1]
  have x4 : ∀ W : World, (binOp .eql 31 (.agg #[.int .i64 A, .int .i64 B, .int .i64 C, .int .i64 D]) (.agg #[.int .i64 0, .int .i64 0, .int .i64 0, .int .i64 0])).run Tryd.prog W = .ok (.bool y4) W := fun W => by rw [eql_turn, e4]
  have cP : Hid (∀ W : World, Below w.heap.size w W → Calls Tryd.prog 27 #[.slice a n c] W fun e w' => e = .returned (.bool (spotsB S)) ∧ Below W.heap.size W w') := hide (fun W hW => by subst hn; exact specSpotsRight_any S a c W hl (hS.kept hW))
  clear e1 e4 hn hS
  cases y4
  · skip
    go_enter Tryd.func8, Tryd.ntmps8
    go_wp2_with fail
    all_goals (go_ret; exact ⟨by rw [unhide HO]; simp [*], unhide B0⟩)
  go_enter Tryd.func8, Tryd.ntmps8
  go_wp2_with fail
  all_goals
    refine (unhide cP _ (unhide B0)).mono ?_
    rintro e w1 ⟨rfl, hx⟩
    have A1 := hide ((unhide A0).kept hx)
    have B1 := hide (below_call (unhide B0) hx)
    clear hx A0 B0
    cases hr : spotsB S
    all_goals
      rw [hr] at HO
      go_wp2_with fail
      all_goals (go_ret; exact ⟨by rw [unhide HO]; simp [*], unhide B1⟩)
set_option maxHeartbeats 4000000 in
set_option maxRecDepth 100000 in
theorem specCR_4 (S : List D3) (A B C D wd ht lv fo : Int) (px : ByteArray) (a : Option Addr) (n c : Nat) (hn : S.length = n) (w : World) :
    Calls Tryd.prog 8 #[.agg #[.int .i64 4, .int .i64 A, .int .i64 B, .int .i64 C, .int .i64 D, .slice a n c, .int .i64 wd, .int .i64 ht, .string px, .int .i64 lv, .int .i64 fo]] w fun e w' => e = .returned (.bool (cmdB ⟨4, A, B, C, D, S, wd, ht, px, lv, fo⟩)) ∧ Below w.heap.size w w' := by
  have B0 := hide (below3 w (.cells #[.int .i64 4, .int .i64 A, .int .i64 B, .int .i64 C, .int .i64 D, .slice a n c, .int .i64 wd, .int .i64 ht, .string px, .int .i64 lv, .int .i64 fo] 35) (.cells #[.int .i64 0, .int .i64 0, .int .i64 0, .int .i64 0] 31) (.cells #[.int .i64 0, .int .i64 0, .string ⟨#[]⟩] 33))
  have A0 := hide (((blk_new w [.int .i64 4, .int .i64 A, .int .i64 B, .int .i64 C, .int .i64 D, .slice a n c, .int .i64 wd, .int .i64 ht, .string px, .int .i64 lv, .int .i64 fo] 35).alloc (.cells #[.int .i64 0, .int .i64 0, .int .i64 0, .int .i64 0] 31)).alloc (.cells #[.int .i64 0, .int .i64 0, .string ⟨#[]⟩] 33))
  obtain ⟨y1, e1⟩ : ∃ y, frEq wd ht 0 0 px ⟨#[]⟩ = y := ⟨_, rfl⟩
  obtain ⟨y2, e2⟩ : ∃ y, (lv == 0) = y := ⟨_, rfl⟩
  obtain ⟨y3, e3⟩ : ∃ y, (fo == 0) = y := ⟨_, rfl⟩
  obtain ⟨y4, e4⟩ : ∃ y, eqT A B C D 0 0 0 0 = y := ⟨_, rfl⟩
  obtain ⟨y5, e5⟩ : ∃ y, ((n : Int) == 0) = y := ⟨_, rfl⟩
  have HO : Hid (cmdB ⟨4, A, B, C, D, S, wd, ht, px, lv, fo⟩ = (y4 && y5 && frameB wd ht px && spanB 0 255 lv && spanB 1 40 fo)) := hide (by
    rw [cmd_4 rfl]
    simp only [← e1, ← e2, ← e3, ← e4, ← e5, ← hn]
    unfold tz
    dsimp only
    rw [noS_int])
  have x1 : ∀ W : World, (binOp .eql 33 (.agg #[.int .i64 wd, .int .i64 ht, .string px]) (.agg #[.int .i64 0, .int .i64 0, .string ⟨#[]⟩])).run Tryd.prog W = .ok (.bool y1) W := fun W => by rw [eql_frame, e1]
  have x4 : ∀ W : World, (binOp .eql 31 (.agg #[.int .i64 A, .int .i64 B, .int .i64 C, .int .i64 D]) (.agg #[.int .i64 0, .int .i64 0, .int .i64 0, .int .i64 0])).run Tryd.prog W = .ok (.bool y4) W := fun W => by rw [eql_turn, e4]
  clear e1 e4 hn
  cases y4
  · skip
    go_enter Tryd.func8, Tryd.ntmps8
    go_wp2_with fail
    all_goals (go_ret; exact ⟨by rw [unhide HO]; simp [*], unhide B0⟩)
  cases y5
  · skip
    go_enter Tryd.func8, Tryd.ntmps8
    go_wp2_with fail
    all_goals (go_ret; exact ⟨by rw [unhide HO]; simp [*], unhide B0⟩)
  go_enter Tryd.func8, Tryd.ntmps8
  go_wp2_with fail
  all_goals
    refine (specFrameRight_any wd ht px _).mono ?_
    rintro e w1 ⟨rfl, hx⟩
    have A1 := hide ((unhide A0).kept hx)
    have B1 := hide (below_call (unhide B0) hx)
    clear hx A0 B0
    have q0 := (unhide A1).cell 0 _ rfl
    have q1 := (unhide A1).cell 1 _ rfl
    have q2 := (unhide A1).cell 2 _ rfl
    have q3 := (unhide A1).cell 3 _ rfl
    have q4 := (unhide A1).cell 4 _ rfl
    have q5 := (unhide A1).cell 5 _ rfl
    have q6 := (unhide A1).cell 6 _ rfl
    have q7 := (unhide A1).cell 7 _ rfl
    have q8 := (unhide A1).cell 8 _ rfl
    have q9 := (unhide A1).cell 9 _ rfl
    have q10 := (unhide A1).cell 10 _ rfl
    cases hr : frameB wd ht px
    · rw [hr] at HO
      go_wp2_with fail
      all_goals (go_ret; exact ⟨by rw [unhide HO]; simp [*], unhide B1⟩)
    rw [hr] at HO
    go_wp2_with fail
    refine (l02Is_any lv 0 255 _).mono ?_
    rintro e w2 ⟨rfl, hw⟩
    rw [hw]
    clear hw w2
    have el : (decide (0 ≤ lv) && decide (lv ≤ 255)) = spanB 0 255 lv := rfl
    rw [el]
    cases hs : spanB 0 255 lv
    · rw [hs] at HO
      go_wp2_with fail
      all_goals (go_ret; exact ⟨by rw [unhide HO]; simp [*], unhide B1⟩)
    rw [hs] at HO
    go_wp2_with fail
    refine (l02Is_any fo 1 40 _).mono ?_
    rintro e w2 ⟨rfl, hw⟩
    rw [hw]
    clear hw w2
    have ef : (decide (1 ≤ fo) && decide (fo ≤ 40)) = spanB 1 40 fo := rfl
    rw [ef]
    go_wp2_with fail
    go_ret
    exact ⟨by rw [unhide HO]; simp, unhide B1⟩
set_option maxHeartbeats 4000000 in
set_option maxRecDepth 100000 in
theorem specCR_n (S : List D3) (kind A B C D wd ht lv fo : Int) (px : ByteArray) (a : Option Addr) (n c : Nat) (hn : S.length = n) (w : World) (h1 : kind ≠ 1) (h2 : kind ≠ 2) (h3 : kind ≠ 3) (h4 : kind ≠ 4) :
    Calls Tryd.prog 8 #[.agg #[.int .i64 kind, .int .i64 A, .int .i64 B, .int .i64 C, .int .i64 D, .slice a n c, .int .i64 wd, .int .i64 ht, .string px, .int .i64 lv, .int .i64 fo]] w fun e w' => e = .returned (.bool (cmdB ⟨kind, A, B, C, D, S, wd, ht, px, lv, fo⟩)) ∧ Below w.heap.size w w' := by
  have B0 := hide (below3 w (.cells #[.int .i64 kind, .int .i64 A, .int .i64 B, .int .i64 C, .int .i64 D, .slice a n c, .int .i64 wd, .int .i64 ht, .string px, .int .i64 lv, .int .i64 fo] 35) (.cells #[.int .i64 0, .int .i64 0, .int .i64 0, .int .i64 0] 31) (.cells #[.int .i64 0, .int .i64 0, .string ⟨#[]⟩] 33))
  have A0 := hide (((blk_new w [.int .i64 kind, .int .i64 A, .int .i64 B, .int .i64 C, .int .i64 D, .slice a n c, .int .i64 wd, .int .i64 ht, .string px, .int .i64 lv, .int .i64 fo] 35).alloc (.cells #[.int .i64 0, .int .i64 0, .int .i64 0, .int .i64 0] 31)).alloc (.cells #[.int .i64 0, .int .i64 0, .string ⟨#[]⟩] 33))
  obtain ⟨y1, e1⟩ : ∃ y, frEq wd ht 0 0 px ⟨#[]⟩ = y := ⟨_, rfl⟩
  obtain ⟨y2, e2⟩ : ∃ y, (lv == 0) = y := ⟨_, rfl⟩
  obtain ⟨y3, e3⟩ : ∃ y, (fo == 0) = y := ⟨_, rfl⟩
  obtain ⟨y4, e4⟩ : ∃ y, eqT A B C D 0 0 0 0 = y := ⟨_, rfl⟩
  obtain ⟨y5, e5⟩ : ∃ y, ((n : Int) == 0) = y := ⟨_, rfl⟩
  have HO : Hid (cmdB ⟨kind, A, B, C, D, S, wd, ht, px, lv, fo⟩ = false) := hide (cmd_n h1 h2 h3 h4)
  have x1 : ∀ W : World, (binOp .eql 33 (.agg #[.int .i64 wd, .int .i64 ht, .string px]) (.agg #[.int .i64 0, .int .i64 0, .string ⟨#[]⟩])).run Tryd.prog W = .ok (.bool y1) W := fun W => by rw [eql_frame, e1]
  have x4 : ∀ W : World, (binOp .eql 31 (.agg #[.int .i64 A, .int .i64 B, .int .i64 C, .int .i64 D]) (.agg #[.int .i64 0, .int .i64 0, .int .i64 0, .int .i64 0])).run Tryd.prog W = .ok (.bool y4) W := fun W => by rw [eql_turn, e4]
  clear e1 e4 hn
  go_enter Tryd.func8, Tryd.ntmps8
  go_wp2_with fail
  all_goals (go_ret; exact ⟨by rw [unhide HO]; simp [*], unhide B0⟩)
theorem specCommandRight_any (S : List D3) (kind A B C D wd ht lv fo : Int) (px : ByteArray) (a : Option Addr) (c : Nat) (w : World) (hn : S.length ≤ 1048576) (hS : Dirs w a S S.length) :
    Calls Tryd.prog 8 #[.agg #[.int .i64 kind, .int .i64 A, .int .i64 B, .int .i64 C, .int .i64 D, .slice a S.length c, .int .i64 wd, .int .i64 ht, .string px, .int .i64 lv, .int .i64 fo]] w fun e w' => e = .returned (.bool (cmdB ⟨kind, A, B, C, D, S, wd, ht, px, lv, fo⟩)) ∧ Below w.heap.size w w' := by
  by_cases h1 : kind = 1
  · subst h1; exact specCR_1 S A B C D wd ht lv fo px a _ c rfl w
  by_cases h2 : kind = 2
  · subst h2; exact specCR_2 S A B C D wd ht lv fo px a _ c rfl w
  by_cases h3 : kind = 3
  · subst h3; exact specCR_3 S A B C D wd ht lv fo px a _ c rfl w hn hS
  by_cases h4 : kind = 4
  · subst h4; exact specCR_4 S A B C D wd ht lv fo px a _ c rfl w
  exact specCR_n S kind A B C D wd ht lv fo px a _ c rfl w h1 h2 h3 h4
end Go.Proofs.YtnffnjljjecphaaDoor

namespace Go.Proofs.YtnffnjljjecphaaDoor
open Go.RowKit Go.Sort
set_option linter.unusedVariables false

/-- the first k numbers, one behind the other -/
def numsTo (ids : List Int) : Nat → ByteArray
  | 0 => ⟨#[]⟩
  | k + 1 => numsTo ids k ++ numS (ids.getD k 0)
theorem numsTo_size (ids : List Int) (k : Nat) : (numsTo ids k).size ≤ 10 * k := by
  induction k with
  | zero => exact Nat.le_refl _
  | succ k ih =>
    have := (numS_size (ids.getD k 0)).2
    unfold numsTo
    rw [ByteArray.size_append]
    omega
/-- the numbers lie at a -/
def NumL (w : World) (a : Option Addr) (ids : List Int) : Prop := ∃ b, a = some ⟨b, 0, none⟩ ∧ b < w.heap.size ∧ ∀ i, i < ids.length → w.cell? ⟨b, i, none⟩ = some (.int .i64 (ids.getD i 0))
def okI (x : Int) : Prop := -9223372036854775808 ≤ x ∧ x ≤ 9223372036854775807

set_option maxHeartbeats 1000000 in
set_option maxRecDepth 100000 in
theorem numbersText_any (ids : List Int) (a : Option Addr) (c : Nat) (w : World) (hl : ids.length ≤ 100) (hb : ∀ i, i < ids.length → okI (ids.getD i 0)) (hI : NumL w a ids) :
    Calls Tryd.prog 60 #[.slice a ids.length c] w fun e w' => e = .returned (.string (numsTo ids ids.length)) ∧ Below w.heap.size w w' := by
  obtain ⟨b, rfl, hlt, hc⟩ := hI
  have HC := hide hc
  have HK := hide hb
  clear hc hb
  generalize ids.length = n at *
  go_enter Tryd.func60, Tryd.ntmps60
  go_wp2_with fail
  go_loopw [3, 8] (fun t i wr => ∃ k : Nat, k ≤ n ∧ i = .int .i64 k ∧ t = .string (numsTo ids k) ∧ Hid (Below w.heap.size w wr)) (fun _ i _ => n - (intOf i).toNat)
  case atStart => exact ⟨0, by omega, rfl, rfl, hide (Below.refl _ _)⟩
  case round =>
    obtain ⟨k, hk, rfl, rfl, HB⟩ := hrel
    by_cases hkn : k < n
    · have c0 : wr.cell? ⟨b, k, none⟩ = some (.int .i64 (ids.getD k 0)) := by rw [(unhide HB).cell (p := ⟨b, k, none⟩) hlt]; exact unhide HC k hkn
      have hok := unhide HK k hkn
      have hkn2 : (k : Int) < (n : Int) := by omega
      have HE : Hid (numsTo ids (k + 1) = numsTo ids k ++ numS (ids.getD k 0)) := hide rfl
      have z0 := numsTo_size ids k
      have z1 := (numS_size (ids.getD k 0)).2
      generalize ids.getD k 0 = x at *
      generalize numsTo ids k = t at *
      go_wp2_with fail
      refine (implPutNum_any x _ hok.1 hok.2).mono ?_
      rintro e w1 ⟨rfl, hx⟩
      have HB1 := hide (below_call (unhide HB) hx)
      clear hx HB c0
      go_wp2_with fail
      refine (joinTexts_any _ _ _ (by omega) (by omega)).mono ?_
      rintro e w2 ⟨rfl, hx⟩
      have HB2 := hide (below_call (unhide HB1) hx)
      clear hx HB1
      rw [← unhide HE]
      go_wp2_with fail
      go_roundw
      case rel => exact ⟨k + 1, by omega, by go_num, rfl, HB2⟩
      case measure => simp [intOf]; omega
    · have hkn' : k = n := by omega
      subst hkn'
      go_wp2_with fail
      go_ret
      exact ⟨rfl, unhide HB⟩
theorem numL_new (w : World) (xs : List Int) (t : TypeId) : NumL (w.alloc (.cells (xs.map (fun z => Value.int .i64 z)).toArray t)) (some ⟨w.heap.size, 0, none⟩) xs := by
  refine ⟨_, rfl, by simp, fun i hi => ?_⟩
  rw [cell_of_row _ _ i _ _ _ (heap_alloc_new w _)]
  rw [List.getElem?_toArray, List.getElem?_map, List.getElem?_eq_getElem hi, List.getD_eq_getElem?_getD, List.getElem?_eq_getElem hi]
  rfl

end Go.Proofs.YtnffnjljjecphaaDoor

namespace Go.Proofs.YtnffnjljjecphaaDoor
open Go.RowKit

def textS (t : ByteArray) : ByteArray := if 8000 < t.size then ⟨#[]⟩ else numS (t.size : Int) ++ t

set_option maxHeartbeats 400000 in
theorem specPutText_any (t : ByteArray) (w : World) (hs : t.size ≤ 1048576) :
    Calls Tryd.prog 40 #[.string t] w fun e w' => e = .returned (.string (textS t)) ∧ Below w.heap.size w w' := by
  by_cases h1 : 8000 < t.size
  · have HS := hide (show textS t = ⟨#[]⟩ by simp [textS, h1])
    go_enter Tryd.func40, Tryd.ntmps40
    go_wp2
    go_ret
    exact ⟨by rw [unhide HS]; rfl, Below.refl _ _⟩
  · have HS := hide (show textS t = numS (t.size : Int) ++ t by simp [textS, h1])
    have hn := numS_size (t.size : Int)
    go_enter Tryd.func40, Tryd.ntmps40
    go_wp2_with fail
    refine (specPutNum_any _ _ (by omega) (by omega)).mono ?_
    rintro e w1 ⟨rfl, hb⟩
    go_wp2
    go_ret
    exact ⟨by rw [unhide HS]; rfl, hb⟩

set_option maxHeartbeats 400000 in
theorem implPutText_any (t : ByteArray) (w : World) (hs : t.size ≤ 1048576) :
    Calls Tryd.prog 153 #[.string t] w fun e w' => e = .returned (.string (textS t)) ∧ Below w.heap.size w w' := by
  by_cases h1 : 8000 < t.size
  · have HS := hide (show textS t = ⟨#[]⟩ by simp [textS, h1])
    go_enter Tryd.func153, Tryd.ntmps153
    go_wp2
    go_ret
    exact ⟨by rw [unhide HS]; rfl, Below.refl _ _⟩
  · have HS := hide (show textS t = numS (t.size : Int) ++ t by simp [textS, h1])
    have hn := numS_size (t.size : Int)
    go_enter Tryd.func153, Tryd.ntmps153
    go_wp2_with fail
    refine (implPutNum_any _ _ (by omega) (by omega)).mono ?_
    rintro e w1 ⟨rfl, hb1⟩
    go_wp2_with fail
    refine (joinTexts_any _ _ _ (by omega) (by omega)).mono ?_
    rintro e w2 ⟨rfl, hb2⟩
    go_wp2
    go_ret
    exact ⟨by rw [unhide HS]; rfl, hb1.trans (hb2.mono hb1.size)⟩
end Go.Proofs.YtnffnjljjecphaaDoor

namespace Go.Proofs.YtnffnjljjecphaaDoor
open Go.RowKit Go.Sort
set_option linter.unusedVariables false
set_option linter.unusedSimpArgs false

/-- the bytes of the first k spots, behind how many -/
def lookTo (S : List D3) : Nat → ByteArray
  | 0 => numS (S.length : Int)
  | k + 1 => lookTo S k ++ numsTo [(vA S k).1, (vA S k).2.1, (vA S k).2.2] 3
def bodyR (c : Cm) : ByteArray :=
  if c.kind = 2 then numsTo [c.A, c.B, c.C, c.D] 4
  else if c.kind = 3 then lookTo c.S c.S.length
  else if c.kind = 4 then numsTo [c.wd, c.ht, c.lv, c.fo] 4 ++ textS c.px
  else ⟨#[]⟩
def cmdS (c : Cm) : ByteArray := if cmdB c = true then sealOf (numS c.kind ++ bodyR c) else ⟨#[]⟩
theorem lookTo_size (S : List D3) (k : Nat) : (lookTo S k).size ≤ 10 + 30 * k := by
  induction k with
  | zero => exact (numS_size _).2
  | succ k ih =>
    have := numsTo_size [(vA S k).1, (vA S k).2.1, (vA S k).2.2] 3
    unfold lookTo
    rw [ByteArray.size_append]
    omega
theorem textS_size (t : ByteArray) : (textS t).size ≤ 8010 := by
  have := (numS_size (t.size : Int)).2
  unfold textS
  split
  · exact Nat.zero_le _
  · rw [ByteArray.size_append]; omega
theorem okI_turn {a b c d : Int} (h : rightT a b c d = true) : (-5 ≤ a ∧ a ≤ 5) ∧ (-5 ≤ b ∧ b ≤ 5) ∧ (-5 ≤ c ∧ c ≤ 5) ∧ (-5 ≤ d ∧ d ≤ 5) := inT_iff.1 (rightT_iff.1 h).1
theorem okI_4 {a b c d : Int} (h1 : okI a) (h2 : okI b) (h3 : okI c) (h4 : okI d) : ∀ i, i < [a, b, c, d].length → okI ([a, b, c, d].getD i 0) := by
  intro i hi
  have hi' : i < 4 := hi
  have hc : i = 0 ∨ i = 1 ∨ i = 2 ∨ i = 3 := by omega
  rcases hc with rfl | rfl | rfl | rfl
  · exact h1
  · exact h2
  · exact h3
  · exact h4
theorem okI_3 {a b c : Int} (h1 : okI a) (h2 : okI b) (h3 : okI c) : ∀ i, i < [a, b, c].length → okI ([a, b, c].getD i 0) := by
  intro i hi
  have hi' : i < 3 := hi
  have hc : i = 0 ∨ i = 1 ∨ i = 2 := by omega
  rcases hc with rfl | rfl | rfl
  · exact h1
  · exact h2
  · exact h3

set_option maxRecDepth 100000 in
theorem resetBody_any (w : World) : Calls Tryd.prog 145 #[.agg #[]] w fun e w' => e = .returned (.string ⟨#[]⟩) ∧ Below w.heap.size w w' := by
  go_enter Tryd.func145, Tryd.ntmps145
  go_wp2
  go_ret
  exact ⟨rfl, below1 _ _⟩
set_option maxHeartbeats 1000000 in
set_option maxRecDepth 100000 in
theorem gyroBody_any (A B C D : Int) (w : World) (h : rightT A B C D = true) : Calls Tryd.prog 147 #[.agg #[.int .i64 A, .int .i64 B, .int .i64 C, .int .i64 D]] w fun e w' => e = .returned (.string (numsTo [A, B, C, D] 4)) ∧ Below w.heap.size w w' := by
  have hb := okI_turn h
  have Z := below2 w (.cells #[.int .i64 A, .int .i64 B, .int .i64 C, .int .i64 D] 106) (.cells #[.int .i64 A, .int .i64 B, .int .i64 C, .int .i64 D] 2)
  have cN := hide (numbersText_any [A, B, C, D] (some ⟨(w.alloc (.cells #[.int .i64 A, .int .i64 B, .int .i64 C, .int .i64 D] 106)).heap.size, 0, none⟩) 4 _ (by simp) (okI_4 (by unfold okI; omega) (by unfold okI; omega) (by unfold okI; omega) (by unfold okI; omega)) (numL_new (w.alloc (.cells #[.int .i64 A, .int .i64 B, .int .i64 C, .int .i64 D] 106)) [A, B, C, D] 2))
  have e4 : [A, B, C, D].length = 4 := rfl
  rw [e4] at cN
  generalize numsTo [A, B, C, D] 4 = tx at *
  have e1 : (w.alloc (.cells #[.int .i64 A, .int .i64 B, .int .i64 C, .int .i64 D] 106)).heap.size = w.heap.size + 1 := by simp
  rw [e1] at cN
  clear e1 e4 h hb
  have HZ := hide Z
  clear Z
  go_enter Tryd.func147, Tryd.ntmps147
  go_wp2_with fail
  refine (unhide cN).mono ?_
  rintro e w1 ⟨rfl, hx⟩
  have B1 := hide (below_call (unhide HZ) hx)
  clear hx
  go_wp2_with fail
  go_ret
  exact ⟨rfl, unhide B1⟩
theorem spot_wide {S : List D3} (h : spotsB S = true) {k : Nat} (hk : k < S.length) : (-1800 ≤ (vA S k).1 ∧ (vA S k).1 ≤ 1800) ∧ (-1800 ≤ (vA S k).2.1 ∧ (vA S k).2.1 ≤ 1800) ∧ (-1800 ≤ (vA S k).2.2 ∧ (vA S k).2.2 ≤ 1800) :=
  withinB_iff.1 (wide_iff (okV_wide ((spots_ok h).2 k hk))).2

set_option maxHeartbeats 2000000 in
set_option maxRecDepth 100000 in
theorem lookBody_any (S : List D3) (a : Option Addr) (c : Nat) (w : World) (hsp : spotsB S = true) (hS : Dirs w a S S.length) : Calls Tryd.prog 149 #[.agg #[.slice a S.length c]] w fun e w' => e = .returned (.string (lookTo S S.length)) ∧ Below w.heap.size w w' := by
  have h6 := (spots_ok hsp).1
  have HW := hide (fun (k : Nat) (hk : k < S.length) => spot_wide hsp hk)
  have HZ : Hid (lookTo S 0 = numS (S.length : Int)) := hide rfl
  have B0 := hide (below1 w (.cells #[.slice a S.length c] 108))
  have A0 := hide (blk_new w [.slice a S.length c] 108)
  have HS := hide (hS.kept (unhide B0))
  clear hS hsp
  generalize S.length = n at *
  go_enter Tryd.func149, Tryd.ntmps149
  go_wp2_with fail
  refine (implPutNum_any (n : Int) _ (by omega) (by omega)).mono ?_
  rintro e w1 ⟨rfl, hx⟩
  rw [← unhide HZ]
  have B1 := hide (below_call (unhide B0) hx)
  have S1 := hide ((unhide HS).kept hx)
  have a0 := ((unhide A0).kept hx).cell 0 _ rfl
  clear hx HZ HS A0 B0
  rcases unhide S1 with rfl | ⟨b, o, rfl, hb, hc⟩
  · go_wp2_with fail
    refine wp_loop_rounds 1 ?_
    rw [rounds_succ]
    go_wp2_with fail
    go_ret
    exact ⟨rfl, unhide B1⟩
  have HC := hide hc
  clear hc S1
  go_wp2_with fail
  clear a0
  have hw1 := (unhide B1).size
  go_loopw [3, 13] (fun t i wr => ∃ k : Nat, k ≤ n ∧ i = .int .i64 k ∧ t = .string (lookTo S k) ∧ Hid (Below w1.heap.size w1 wr)) (fun _ i _ => n - (intOf i).toNat)
  case atStart => exact ⟨0, by omega, rfl, rfl, hide (Below.refl _ _)⟩
  case round =>
    obtain ⟨k, hk, rfl, rfl, HB⟩ := hrel
    by_cases hkn : k < n
    · obtain ⟨c0, c1, c2⟩ := ((unhide HC) k hkn).kept hb (unhide HB)
      have hkn2 : (k : Int) < (n : Int) := by omega
      obtain ⟨g1, g2, g3⟩ := unhide HW k hkn
      have HE : Hid (lookTo S (k + 1) = lookTo S k ++ numsTo [(vA S k).1, (vA S k).2.1, (vA S k).2.2] 3) := hide rfl
      have z0 := lookTo_size S k
      generalize (vA S k).1 = x0 at *
      generalize (vA S k).2.1 = x1 at *
      generalize (vA S k).2.2 = x2 at *
      have z1 := numsTo_size [x0, x1, x2] 3
      have hlt := (unhide HB).size
      have Z := below_call (unhide HB) (below2 wr (.cells #[.int .i64 x0, .int .i64 x1, .int .i64 x2] 75) (.cells #[.int .i64 x0, .int .i64 x1, .int .i64 x2] 2))
      have HZ2 := hide Z
      have e1 : (wr.alloc (.cells #[.int .i64 x0, .int .i64 x1, .int .i64 x2] 75)).heap.size = wr.heap.size + 1 := by simp
      have cN := hide (numbersText_any [x0, x1, x2] (some ⟨(wr.alloc (.cells #[.int .i64 x0, .int .i64 x1, .int .i64 x2] 75)).heap.size, 0, none⟩) 3 _ (by simp) (okI_3 (by unfold okI; omega) (by unfold okI; omega) (by unfold okI; omega)) (numL_new (wr.alloc (.cells #[.int .i64 x0, .int .i64 x1, .int .i64 x2] 75)) [x0, x1, x2] 2))
      have e3 : [x0, x1, x2].length = 3 := rfl
      rw [e3, e1] at cN
      generalize numsTo [x0, x1, x2] 3 = tx at *
      generalize lookTo S k = t at *
      clear e3 e1 Z g1 g2 g3 hlt
      go_wp2_with fail
      refine (unhide cN).mono ?_
      rintro e w2 ⟨rfl, hx⟩
      have HB1 := hide (below_call (unhide HZ2) hx)
      clear hx HB c0 c1 c2 HZ2 cN
      go_wp2_with fail
      refine (joinTexts_any _ _ _ (by omega) (by omega)).mono ?_
      rintro e w3 ⟨rfl, hx⟩
      have HB2 := hide (below_call (unhide HB1) hx)
      clear hx HB1
      rw [← unhide HE]
      go_wp2_with fail
      go_roundw
      case rel => exact ⟨k + 1, by omega, by go_num, rfl, HB2⟩
      case measure => simp [intOf]; omega
    · have hkn' : k = n := by omega
      subst hkn'
      go_wp2_with fail
      go_ret
      exact ⟨rfl, below_call (unhide B1) (unhide HB)⟩

end Go.Proofs.YtnffnjljjecphaaDoor

namespace Go.Proofs.YtnffnjljjecphaaDoor
open Go.RowKit Go.Sort
set_option linter.unusedVariables false
set_option linter.unusedSimpArgs false

theorem blk5 {W : World} {b : Nat} {x0 x1 x2 x3 x4 : Value} {t : TypeId} (h : Blk W b [x0, x1, x2, x3, x4] t) : W.cell? ⟨b, 0, none⟩ = some x0 ∧ W.cell? ⟨b, 1, none⟩ = some x1 ∧ W.cell? ⟨b, 2, none⟩ = some x2 ∧ W.cell? ⟨b, 3, none⟩ = some x3 ∧ W.cell? ⟨b, 4, none⟩ = some x4 := ⟨h.cell 0 _ rfl, h.cell 1 _ rfl, h.cell 2 _ rfl, h.cell 3 _ rfl, h.cell 4 _ rfl⟩
set_option maxHeartbeats 2000000 in
set_option maxRecDepth 100000 in
theorem frameBody_any (wd ht lv fo : Int) (px : ByteArray) (w : World) (hf : frameB wd ht px = true) (hl : spanB 0 255 lv = true) (hfo : spanB 1 40 fo = true) : Calls Tryd.prog 151 #[.agg #[.int .i64 wd, .int .i64 ht, .string px, .int .i64 lv, .int .i64 fo]] w fun e w' => e = .returned (.string (numsTo [wd, ht, lv, fo] 4 ++ textS px)) ∧ Below w.heap.size w w' := by
  have hb := frameB_iff.1 hf
  rw [span_iff] at hl hfo
  have hpx : px.size ≤ 192 := by
    have : wd * ht ≤ 16 * 12 := Int.mul_le_mul hb.2.1 hb.2.2.2.1 (by omega) (by omega)
    omega
  have B0 := hide (below1 w (.cells #[.int .i64 wd, .int .i64 ht, .string px, .int .i64 lv, .int .i64 fo] 111))
  have A0 := hide (blk_new w [.int .i64 wd, .int .i64 ht, .string px, .int .i64 lv, .int .i64 fo] 111)
  have cN := hide (numbersText_any [wd, ht, lv, fo] (some ⟨(w.alloc (.cells #[.int .i64 wd, .int .i64 ht, .string px, .int .i64 lv, .int .i64 fo] 111)).heap.size, 0, none⟩) 4 ((w.alloc (.cells #[.int .i64 wd, .int .i64 ht, .string px, .int .i64 lv, .int .i64 fo] 111)).alloc (.cells #[.int .i64 wd, .int .i64 ht, .int .i64 lv, .int .i64 fo] 2)).drew (by simp) (okI_4 (by unfold okI; omega) (by unfold okI; omega) (by unfold okI; omega) (by unfold okI; omega)) (numL_new (w.alloc (.cells #[.int .i64 wd, .int .i64 ht, .string px, .int .i64 lv, .int .i64 fo] 111)) [wd, ht, lv, fo] 2))
  have cT := hide (fun W => implPutText_any px W (by omega))
  have e4 : [wd, ht, lv, fo].length = 4 := rfl
  have e1 : (w.alloc (.cells #[.int .i64 wd, .int .i64 ht, .string px, .int .i64 lv, .int .i64 fo] 111)).heap.size = w.heap.size + 1 := by simp
  rw [e4, e1] at cN
  clear e1
  have z1 := numsTo_size [wd, ht, lv, fo] 4
  have z2 := textS_size px
  generalize numsTo [wd, ht, lv, fo] 4 = tx at *
  generalize textS px = ty at *
  clear hb hl hfo hf e4 hpx
  go_enter Tryd.func151, Tryd.ntmps151
  go_wp2_with fail
  refine wp_region_held_drew (S := (fun w' => w'.cell? ⟨w.heap.size, 0, none⟩ = some (.int .i64 wd) ∧ w'.cell? ⟨w.heap.size, 1, none⟩ = some (.int .i64 ht) ∧ w'.cell? ⟨w.heap.size, 2, none⟩ = some (.string px) ∧ w'.cell? ⟨w.heap.size, 3, none⟩ = some (.int .i64 lv) ∧ w'.cell? ⟨w.heap.size, 4, none⟩ = some (.int .i64 fo))) (by kernel_rfl) ?_ (fun hHeld => ?_)
  · exact blk5 (unhide A0)
  have Bd := hide ((unhide B0).drew)
  have Ad := hide ((unhide A0).drewn)
  refine wpAnyH_take (i := 0) (oi := ({ dst := some 3, op := Op.fieldAddr 111 (Operand.tmp 1) 0, type := 0, pos := "l08_link.go:308", after := #[], guard := none } : Oper)) (v := ?_) rfl (by kernel_rfl) (by kernel_rfl) (by kernel_rfl) (fun _ _ _ h => h) (Or.inl ⟨by kernel_rfl, ?_⟩) (by assumption) ?_
  rotate_left
  · intro W0 hSw; (try dsimp only at hSw); go_simp <;> with_reducible rfl
  try simp only [Act.put, List.setIfInBounds_toArray, List.set_cons_zero, List.set_cons_succ]
  refine wpAnyH_take (i := 1) (oi := ({ dst := some 4, op := Op.fieldAddr 33 (Operand.tmp 3) 0, type := 0, pos := "l08_link.go:308", after := #[{ on := 0, ground := Ground.data }], guard := none } : Oper)) (v := ?_) rfl (by kernel_rfl) (by kernel_rfl) (by kernel_rfl) (fun _ _ _ h => h) (Or.inl ⟨by kernel_rfl, ?_⟩) (by assumption) ?_
  rotate_left
  · intro W0 hSw; (try dsimp only at hSw); go_simp <;> with_reducible rfl
  try simp only [Act.put, List.setIfInBounds_toArray, List.set_cons_zero, List.set_cons_succ]
  refine wpAnyH_take (i := 2) (oi := ({ dst := some 5, op := Op.load 2 (Operand.tmp 4), type := 2, pos := "l08_link.go:308", after := #[{ on := 1, ground := Ground.data }], guard := none } : Oper)) (v := ?_) rfl (by kernel_rfl) (by kernel_rfl) (by kernel_rfl) (fun _ _ _ h => h) (Or.inl ⟨by kernel_rfl, ?_⟩) (by assumption) ?_
  rotate_left
  · intro W0 hSw; (try dsimp only at hSw); go_simp <;> with_reducible rfl
  try simp only [Act.put, List.setIfInBounds_toArray, List.set_cons_zero, List.set_cons_succ]
  refine wpAnyH_take (i := 3) (oi := ({ dst := some 6, op := Op.fieldAddr 111 (Operand.tmp 1) 0, type := 0, pos := "l08_link.go:308", after := #[], guard := none } : Oper)) (v := ?_) rfl (by kernel_rfl) (by kernel_rfl) (by kernel_rfl) (fun _ _ _ h => h) (Or.inl ⟨by kernel_rfl, ?_⟩) (by assumption) ?_
  rotate_left
  · intro W0 hSw; (try dsimp only at hSw); go_simp <;> with_reducible rfl
  try simp only [Act.put, List.setIfInBounds_toArray, List.set_cons_zero, List.set_cons_succ]
  refine wpAnyH_take (i := 4) (oi := ({ dst := some 7, op := Op.fieldAddr 33 (Operand.tmp 6) 1, type := 0, pos := "l08_link.go:308", after := #[{ on := 3, ground := Ground.data }], guard := none } : Oper)) (v := ?_) rfl (by kernel_rfl) (by kernel_rfl) (by kernel_rfl) (fun _ _ _ h => h) (Or.inl ⟨by kernel_rfl, ?_⟩) (by assumption) ?_
  rotate_left
  · intro W0 hSw; (try dsimp only at hSw); go_simp <;> with_reducible rfl
  try simp only [Act.put, List.setIfInBounds_toArray, List.set_cons_zero, List.set_cons_succ]
  refine wpAnyH_take (i := 5) (oi := ({ dst := some 8, op := Op.load 2 (Operand.tmp 7), type := 2, pos := "l08_link.go:308", after := #[{ on := 4, ground := Ground.data }], guard := none } : Oper)) (v := ?_) rfl (by kernel_rfl) (by kernel_rfl) (by kernel_rfl) (fun _ _ _ h => h) (Or.inl ⟨by kernel_rfl, ?_⟩) (by assumption) ?_
  rotate_left
  · intro W0 hSw; (try dsimp only at hSw); go_simp <;> with_reducible rfl
  try simp only [Act.put, List.setIfInBounds_toArray, List.set_cons_zero, List.set_cons_succ]
  refine wpAnyH_take (i := 6) (oi := ({ dst := some 9, op := Op.fieldAddr 111 (Operand.tmp 1) 1, type := 0, pos := "l08_link.go:308", after := #[], guard := none } : Oper)) (v := ?_) rfl (by kernel_rfl) (by kernel_rfl) (by kernel_rfl) (fun _ _ _ h => h) (Or.inl ⟨by kernel_rfl, ?_⟩) (by assumption) ?_
  rotate_left
  · intro W0 hSw; (try dsimp only at hSw); go_simp <;> with_reducible rfl
  try simp only [Act.put, List.setIfInBounds_toArray, List.set_cons_zero, List.set_cons_succ]
  refine wpAnyH_take (i := 7) (oi := ({ dst := some 10, op := Op.load 2 (Operand.tmp 9), type := 2, pos := "l08_link.go:308", after := #[{ on := 6, ground := Ground.data }], guard := none } : Oper)) (v := ?_) rfl (by kernel_rfl) (by kernel_rfl) (by kernel_rfl) (fun _ _ _ h => h) (Or.inl ⟨by kernel_rfl, ?_⟩) (by assumption) ?_
  rotate_left
  · intro W0 hSw; (try dsimp only at hSw); go_simp <;> with_reducible rfl
  try simp only [Act.put, List.setIfInBounds_toArray, List.set_cons_zero, List.set_cons_succ]
  refine wpAnyH_take (i := 8) (oi := ({ dst := some 11, op := Op.fieldAddr 111 (Operand.tmp 1) 2, type := 0, pos := "l08_link.go:308", after := #[], guard := none } : Oper)) (v := ?_) rfl (by kernel_rfl) (by kernel_rfl) (by kernel_rfl) (fun _ _ _ h => h) (Or.inl ⟨by kernel_rfl, ?_⟩) (by assumption) ?_
  rotate_left
  · intro W0 hSw; (try dsimp only at hSw); go_simp <;> with_reducible rfl
  try simp only [Act.put, List.setIfInBounds_toArray, List.set_cons_zero, List.set_cons_succ]
  refine wpAnyH_take (i := 9) (oi := ({ dst := some 12, op := Op.load 2 (Operand.tmp 11), type := 2, pos := "l08_link.go:308", after := #[{ on := 8, ground := Ground.data }], guard := none } : Oper)) (v := ?_) rfl (by kernel_rfl) (by kernel_rfl) (by kernel_rfl) (fun _ _ _ h => h) (Or.inl ⟨by kernel_rfl, ?_⟩) (by assumption) ?_
  rotate_left
  · intro W0 hSw; (try dsimp only at hSw); go_simp <;> with_reducible rfl
  try simp only [Act.put, List.setIfInBounds_toArray, List.set_cons_zero, List.set_cons_succ]
  refine wpAnyH_take (i := 12) (oi := ({ dst := some 15, op := Op.fieldAddr 111 (Operand.tmp 1) 0, type := 0, pos := "l08_link.go:308", after := #[], guard := none } : Oper)) (v := ?_) rfl (by kernel_rfl) (by kernel_rfl) (by kernel_rfl) (fun _ _ _ h => h) (Or.inl ⟨by kernel_rfl, ?_⟩) (by assumption) ?_
  rotate_left
  · intro W0 hSw; (try dsimp only at hSw); go_simp <;> with_reducible rfl
  try simp only [Act.put, List.setIfInBounds_toArray, List.set_cons_zero, List.set_cons_succ]
  refine wpAnyH_take (i := 13) (oi := ({ dst := some 16, op := Op.fieldAddr 33 (Operand.tmp 15) 2, type := 0, pos := "l08_link.go:308", after := #[{ on := 12, ground := Ground.data }], guard := none } : Oper)) (v := ?_) rfl (by kernel_rfl) (by kernel_rfl) (by kernel_rfl) (fun _ _ _ h => h) (Or.inl ⟨by kernel_rfl, ?_⟩) (by assumption) ?_
  rotate_left
  · intro W0 hSw; (try dsimp only at hSw); go_simp <;> with_reducible rfl
  try simp only [Act.put, List.setIfInBounds_toArray, List.set_cons_zero, List.set_cons_succ]
  refine wpAnyH_take (i := 14) (oi := ({ dst := some 17, op := Op.load 9 (Operand.tmp 16), type := 9, pos := "l08_link.go:308", after := #[{ on := 13, ground := Ground.data }], guard := none } : Oper)) (v := ?_) rfl (by kernel_rfl) (by kernel_rfl) (by kernel_rfl) (fun _ _ _ h => h) (Or.inl ⟨by kernel_rfl, ?_⟩) (by assumption) ?_
  rotate_left
  · intro W0 hSw; (try dsimp only at hSw); go_simp <;> with_reducible rfl
  try simp only [Act.put, List.setIfInBounds_toArray, List.set_cons_zero, List.set_cons_succ]
  refine wpAnyH_ready (rs := [10]) (by kernel_rfl) (by simp) ?_
  refine (AllReadyH.cons rfl (fun K hK => ?_) AllReadyH.nil)
  go_simp
  have B1 := hide ((below2 w (.cells #[.int .i64 wd, .int .i64 ht, .string px, .int .i64 lv, .int .i64 fo] 111) (.cells #[.int .i64 wd, .int .i64 ht, .int .i64 lv, .int .i64 fo] 2)).drew)
  have A1 := hide (((blk_new w [.int .i64 wd, .int .i64 ht, .string px, .int .i64 lv, .int .i64 fo] 111).alloc (.cells #[.int .i64 wd, .int .i64 ht, .int .i64 lv, .int .i64 fo] 2)).drewn)
  clear Bd Ad
  refine hK.out _ _ ?_ (fun hHeld1 => ?_)
  · exact blk5 (unhide A1)
  clear hK K
  refine wpAnyH_ready (rs := [11]) (by kernel_rfl) (by simp) ?_
  refine (AllReadyH.cons rfl (fun K hK => ?_) AllReadyH.nil)
  go_simp
  refine (unhide cN).mono ?_
  rintro e v2 ⟨rfl, hx⟩
  have B2 := hide (below_call (unhide B1) hx)
  have A2 := hide ((unhide A1).kept hx)
  clear hx B1 A1
  refine hK.out _ _ ?_ (fun hHeld2 => ?_)
  · exact blk5 (unhide A2)
  clear hK K
  refine wpAnyH_ready (rs := [15]) (by kernel_rfl) (by simp) ?_
  refine (AllReadyH.cons rfl (fun K hK => ?_) AllReadyH.nil)
  go_simp
  refine (unhide cT _).mono ?_
  rintro e v3 ⟨rfl, hx⟩
  have B3 := hide (below_call (unhide B2) hx)
  have A3 := hide ((unhide A2).kept hx)
  clear hx B2 A2
  refine hK.out _ _ ?_ (fun hHeld3 => ?_)
  · exact blk5 (unhide A3)
  clear hK K
  refine wpAnyH_ready (rs := [16]) (by kernel_rfl) (by simp) ?_
  refine (AllReadyH.cons rfl (fun K hK => ?_) AllReadyH.nil)
  go_simp
  refine (joinTexts_any tx ty _ (by omega) (by omega)).mono ?_
  rintro e v4 ⟨rfl, hx⟩
  have B4 := hide (below_call (unhide B3) hx)
  have A4 := hide ((unhide A3).kept hx)
  clear hx B3 A3
  refine hK.out _ _ ?_ (fun hHeld4 => ?_)
  · exact blk5 (unhide A4)
  clear hK K
  refine wpAnyH_ready (rs := [17]) (by kernel_rfl) (by simp) ?_
  refine (AllReadyH.cons rfl (fun K hK => ?_) AllReadyH.nil)
  go_simp
  refine hK.out _ _ ?_ (fun hHeld5 => ?_)
  · exact blk5 (unhide A4)
  clear hK K
  refine wpAnyH_done (by kernel_rfl) ?_ _
  go_wp2_with fail
  go_ret
  exact ⟨rfl, unhide B4⟩
end Go.Proofs.YtnffnjljjecphaaDoor
