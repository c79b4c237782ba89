/- Several texts in one: CmD, SkyA. -/
import Derived.Deep.RegionHeld
import Derived.Test.YtnffnjljjecphaaDoorChecked
import Derived.WalkKit
import Derived.LaidEql
import Derived.Stop.Asserts
import Derived.RowKitTokens
import Derived.Test.YtnffnjljjecphaaDoorQCommandReadOwn6
import Derived.Test.YtnffnjljjecphaaDoorQCommandReadOwn4
import Derived.Test.YtnffnjljjecphaaDoorQCommandReadOwn2
namespace Go.Proofs.YtnffnjljjecphaaDoor
open Go.RowKit Go.Sort
set_option linter.unusedVariables false
set_option linter.unusedSimpArgs false

/-- the wish that a right command is -/
def wishV (kind A B C D : Int) (v : Value) (wd ht : Int) (px : ByteArray) (lv fo : Int) : Value :=
  if kind = 1 then .iface 103 (.agg #[])
  else if kind = 2 then .iface 106 (.agg #[.int .i64 A, .int .i64 B, .int .i64 C, .int .i64 D])
  else if kind = 3 then .iface 108 (.agg #[v])
  else .iface 111 (.agg #[.int .i64 wd, .int .i64 ht, .string px, .int .i64 lv, .int .i64 fo])
/-- how wishOf ends -/
def WishEnd (p : Addr) (c : Cm) (v : Value) (e : Ending) : Prop := if cmdB c = true then e = .returned (wishV c.kind c.A c.B c.C c.D v c.wd c.ht c.px c.lv c.fo) else e = noCmd p

theorem holdC {w W : World} {b : Nat} {kind A B C D wd ht lv fo : Int} {px : ByteArray} {v : Value} (h : Blk W b [.int .i64 kind, .int .i64 A, .int .i64 B, .int .i64 C, .int .i64 D, v, .int .i64 wd, .int .i64 ht, .string px, .int .i64 lv, .int .i64 fo] 35) : W.cell? ⟨b, 0, none⟩ = some (.int .i64 kind) ∧ W.cell? ⟨b, 1, none⟩ = some (.int .i64 A) ∧ W.cell? ⟨b, 2, none⟩ = some (.int .i64 B) ∧ W.cell? ⟨b, 3, none⟩ = some (.int .i64 C) ∧ W.cell? ⟨b, 4, none⟩ = some (.int .i64 D) ∧ W.cell? ⟨b, 5, none⟩ = some v ∧ W.cell? ⟨b, 6, none⟩ = some (.int .i64 wd) ∧ W.cell? ⟨b, 7, none⟩ = some (.int .i64 ht) ∧ W.cell? ⟨b, 8, none⟩ = some (.string px) ∧ W.cell? ⟨b, 9, none⟩ = some (.int .i64 lv) ∧ W.cell? ⟨b, 10, none⟩ = some (.int .i64 fo) :=
  ⟨h.cell 0 _ rfl, h.cell 1 _ rfl, h.cell 2 _ rfl, h.cell 3 _ rfl, h.cell 4 _ rfl, h.cell 5 _ rfl, h.cell 6 _ rfl, h.cell 7 _ rfl, h.cell 8 _ rfl, h.cell 9 _ rfl, h.cell 10 _ rfl⟩
theorem eqT_self (a b c d : Int) : eqT a b c d a b c d = true := by unfold eqT; simp
theorem eqT_zero (a b c d : Int) : eqT 0 0 0 0 a b c d = eqT a b c d 0 0 0 0 := by
  unfold eqT
  by_cases h : a = 0 ∧ b = 0 ∧ c = 0 ∧ d = 0
  · rw [decide_eq_true h, decide_eq_true (by omega)]
  · rw [decide_eq_false h, decide_eq_false (by omega)]
theorem dec_zero (a : Int) : decide (0 = a) = decide (a = 0) := by
  by_cases h : a = 0
  · rw [h]
  · rw [decide_eq_false h, decide_eq_false (fun e => h e.symm)]
theorem frEq_zero (wd ht : Int) (px : ByteArray) : frEq 0 0 wd ht ⟨#[]⟩ px = fr0 wd ht px := by
  unfold frEq fr0
  rw [dec_zero, dec_zero]
  congr 1
  have e : (⟨#[]⟩ : ByteArray).toList = [] := by unfold ByteArray.toList ByteArray.toList.loop; rfl
  rw [e]
  by_cases h : px.toList = []
  · rw [h]
  · rw [decide_eq_false h, decide_eq_false (fun e => h e.symm)]
theorem frEq_self (wd ht : Int) (px : ByteArray) : frEq wd ht wd ht px px = true := by unfold frEq; simp
theorem same_1 (S : List D3) (A B C D wd ht lv fo : Int) (px : ByteArray) : sameC ⟨1, 0, 0, 0, 0, [], 0, 0, ⟨#[]⟩, 0, 0⟩ ⟨1, A, B, C, D, S, wd, ht, px, lv, fo⟩ (noS S) = cmdB ⟨1, A, B, C, D, S, wd, ht, px, lv, fo⟩ := by
  rw [cmd_1 rfl]
  unfold sameC tz bareB
  dsimp only
  rw [eqT_zero, frEq_zero, dec_zero, dec_zero]
  simp [Bool.and_assoc]
theorem same_2 (S : List D3) (A B C D wd ht lv fo : Int) (px : ByteArray) (hr : rightT A B C D = true) : sameC ⟨2, A, B, C, D, [], 0, 0, ⟨#[]⟩, 0, 0⟩ ⟨2, A, B, C, D, S, wd, ht, px, lv, fo⟩ (noS S) = cmdB ⟨2, A, B, C, D, S, wd, ht, px, lv, fo⟩ := by
  rw [cmd_2 rfl]
  unfold sameC bareB
  dsimp only
  rw [eqT_self, frEq_zero, dec_zero, dec_zero, hr]
  simp [Bool.and_assoc]
theorem same_3 (S : List D3) (A B C D wd ht lv fo : Int) (px : ByteArray) (hr : spotsB S = true) : sameC ⟨3, 0, 0, 0, 0, S, 0, 0, ⟨#[]⟩, 0, 0⟩ ⟨3, A, B, C, D, S, wd, ht, px, lv, fo⟩ true = cmdB ⟨3, A, B, C, D, S, wd, ht, px, lv, fo⟩ := by
  rw [cmd_3 rfl]
  unfold sameC tz bareB
  dsimp only
  rw [eqT_zero, frEq_zero, dec_zero, dec_zero, hr]
  simp [Bool.and_assoc]
theorem same_4 (S : List D3) (A B C D wd ht lv fo : Int) (px : ByteArray) (hr : frameB wd ht px = true) (hl : spanB 0 255 lv = true) (hf : spanB 1 40 fo = true) : sameC ⟨4, 0, 0, 0, 0, [], wd, ht, px, lv, fo⟩ ⟨4, A, B, C, D, S, wd, ht, px, lv, fo⟩ (noS S) = cmdB ⟨4, A, B, C, D, S, wd, ht, px, lv, fo⟩ := by
  rw [cmd_4 rfl]
  unfold sameC tz
  dsimp only
  rw [eqT_zero, frEq_self, hr, hl, hf]
  simp
theorem no_2 {S : List D3} {A B C D wd ht lv fo : Int} {px : ByteArray} (h : rightT A B C D = false) : cmdB ⟨2, A, B, C, D, S, wd, ht, px, lv, fo⟩ = false := by rw [cmd_2 rfl]; dsimp only; rw [h]; rfl
theorem no_3 {S : List D3} {A B C D wd ht lv fo : Int} {px : ByteArray} (h : spotsB S = false) : cmdB ⟨3, A, B, C, D, S, wd, ht, px, lv, fo⟩ = false := by rw [cmd_3 rfl]; dsimp only; rw [h]; simp
theorem no_4 {S : List D3} {A B C D wd ht lv fo : Int} {px : ByteArray} (h : frameB wd ht px = false) : cmdB ⟨4, A, B, C, D, S, wd, ht, px, lv, fo⟩ = false := by rw [cmd_4 rfl]; dsimp only; rw [h]; simp
theorem no_4l {S : List D3} {A B C D wd ht lv fo : Int} {px : ByteArray} (h : spanB 0 255 lv = false) : cmdB ⟨4, A, B, C, D, S, wd, ht, px, lv, fo⟩ = false := by rw [cmd_4 rfl]; dsimp only; rw [h]; simp
theorem no_4f {S : List D3} {A B C D wd ht lv fo : Int} {px : ByteArray} (h : spanB 1 40 fo = false) : cmdB ⟨4, A, B, C, D, S, wd, ht, px, lv, fo⟩ = false := by rw [cmd_4 rfl]; dsimp only; rw [h]; simp
set_option maxHeartbeats 4000000 in
set_option maxRecDepth 100000 in
theorem wishOf_1 (S : List D3) (A B C D wd ht lv fo : Int) (px : ByteArray) (a : Option Addr) (c : Nat) (p : Addr) (w : World) (hn : S.length ≤ 1048576) (hc : S.length ≤ c) (hc9 : c ≤ 9223372036854775807) (hS : Dirs w a S S.length) (hE : ErrCmd p w) :
    Calls Tryd.prog 34 #[.agg #[.int .i64 1, .int .i64 A, .int .i64 B, .int .i64 C, .int .i64 D, .slice a S.length c, .int .i64 wd, .int .i64 ht, .string px, .int .i64 lv, .int .i64 fo]] w fun e w' => WishEnd p ⟨1, A, B, C, D, S, wd, ht, px, lv, fo⟩ (.slice a S.length c) e ∧ Below w.heap.size w w' := by
  have B0 := hide (below1 w (.cells #[.int .i64 1, .int .i64 A, .int .i64 B, .int .i64 C, .int .i64 D, .slice a S.length c, .int .i64 wd, .int .i64 ht, .string px, .int .i64 lv, .int .i64 fo] 35))
  have A0 := hide (blk_new w [.int .i64 1, .int .i64 A, .int .i64 B, .int .i64 C, .int .i64 D, .slice a S.length c, .int .i64 wd, .int .i64 ht, .string px, .int .i64 lv, .int .i64 fo] 35)
  obtain ⟨y, hy⟩ : ∃ y, sameC ⟨1, 0, 0, 0, 0, [], 0, 0, ⟨#[]⟩, 0, 0⟩ ⟨1, A, B, C, D, S, wd, ht, px, lv, fo⟩ (noS S) = y := ⟨_, rfl⟩
  have cM : Hid (∀ W : World, Below w.heap.size w W → Calls Tryd.prog 74 #[.agg #[.int .i64 1, .int .i64 0, .int .i64 0, .int .i64 0, .int .i64 0, .slice none 0 0, .int .i64 0, .int .i64 0, .string ⟨#[]⟩, .int .i64 0, .int .i64 0], .agg #[.int .i64 1, .int .i64 A, .int .i64 B, .int .i64 C, .int .i64 D, .slice a S.length c, .int .i64 wd, .int .i64 ht, .string px, .int .i64 lv, .int .i64 fo]] W fun e w' => e = .returned (.bool y) ∧ Below W.heap.size W w') := hide (fun W hW => by
    rw [← hy]
    refine sameCommand_any 1 0 0 0 0 0 0 0 0 1 A B C D wd ht lv fo ⟨#[]⟩ px [] S a none S.length 0 c 0 (noS S) W (fun W2 h2 => ?_)
    by_cases h0 : S.length = 0
    · rw [show noS S = true by unfold noS; simp [h0], h0]
      exact equal_same [] none a 0 0 c W2 (by omega) (.inl rfl) (.inl rfl)
    · rw [show noS S = false by unfold noS; simp [h0]]
      exact equal_len none a 0 S.length 0 c W2 (by omega))
  have HE := hide hE
  have hm : ∀ W : World, (method 323 103 (.agg #[]) "loop.example/g00577/impl.command").run Tryd.prog W = .ok (146, .agg #[]) W := fun _ => by kernel_rfl
  have HY : Hid (cmdB ⟨1, A, B, C, D, S, wd, ht, px, lv, fo⟩ = y) := hide (by rw [← hy]; exact (same_1 S A B C D wd ht lv fo px).symm)
  clear hy hS hE
  go_enter Tryd.func34, Tryd.ntmps34
  go_wp2_with fail
  refine wp_region_held_drew (S := (fun w' => w'.cell? ⟨w.heap.size, 0, none⟩ = some (.int .i64 1) ∧ w'.cell? ⟨w.heap.size, 1, none⟩ = some (.int .i64 A) ∧ w'.cell? ⟨w.heap.size, 2, none⟩ = some (.int .i64 B) ∧ w'.cell? ⟨w.heap.size, 3, none⟩ = some (.int .i64 C) ∧ w'.cell? ⟨w.heap.size, 4, none⟩ = some (.int .i64 D) ∧ w'.cell? ⟨w.heap.size, 5, none⟩ = some (.slice a S.length c) ∧ w'.cell? ⟨w.heap.size, 6, none⟩ = some (.int .i64 wd) ∧ w'.cell? ⟨w.heap.size, 7, none⟩ = some (.int .i64 ht) ∧ w'.cell? ⟨w.heap.size, 8, none⟩ = some (.string px) ∧ w'.cell? ⟨w.heap.size, 9, none⟩ = some (.int .i64 lv) ∧ w'.cell? ⟨w.heap.size, 10, none⟩ = some (.int .i64 fo))) (by kernel_rfl) ?_ (fun hHeld => ?_)
  · exact holdC (w := w) (unhide A0)
  refine wpAnyH_take (i := 0) (v := ?_) rfl (by kernel_rfl) (by kernel_rfl) (by kernel_rfl) (fun _ _ _ h => h) (Or.inl ⟨by rfl, ?_⟩) (by assumption) ?_
  rotate_left
  · intro W0 hSw; (try dsimp only at hSw); go_simp <;> with_reducible rfl
  try simp only [Act.put, List.setIfInBounds_toArray, List.set_cons_zero, List.set_cons_succ]
  refine wpAnyH_take (i := 2) (v := ?_) rfl (by kernel_rfl) (by kernel_rfl) (by kernel_rfl) (fun _ _ _ h => h) (Or.inl ⟨by rfl, ?_⟩) (by assumption) ?_
  rotate_left
  · intro W0 hSw; (try dsimp only at hSw); go_simp <;> with_reducible rfl
  try simp only [Act.put, List.setIfInBounds_toArray, List.set_cons_zero, List.set_cons_succ]
  have Bd := hide ((unhide B0).drew)
  have Ad := hide ((unhide A0).drewn)
  generalize hV : World.drew _ = V at Bd Ad hHeld ⊢
  clear hV
  refine wpAnyH_ready (rs := [1]) (by kernel_rfl) (by simp) ?_
  refine AllReadyH.cons rfl (fun K hK => ?_) AllReadyH.nil
  go_simp
  refine (resetCmd_any _).mono ?_
  rintro e v1 ⟨rfl, hx⟩
  have B1 := hide (below_call (unhide Bd) hx)
  have A1 := hide ((unhide Ad).kept hx)
  clear hx Bd Ad
  refine hK.out _ _ (holdC (w := w) (unhide A1)) (fun hHeld1 => ?_)
  clear hK K hHeld
  refine wpAnyH_ready (rs := [3]) (by kernel_rfl) (by simp) ?_
  refine AllReadyH.cons rfl (fun K hK => ?_) AllReadyH.nil
  go_simp
  refine (unhide cM _ (unhide B1)).mono ?_
  rintro e v2 ⟨rfl, hx⟩
  have B2 := hide (below_call (unhide B1) hx)
  have A2 := hide ((unhide A1).kept hx)
  clear hx B1 A1
  refine hK.out _ _ (holdC (w := w) (unhide A2)) (fun hHeld2 => ?_)
  clear hK K hHeld1
  refine wpAnyH_ready (rs := [4]) (by kernel_rfl) (by simp) ?_
  refine AllReadyH.cons rfl (fun K hK => ?_) AllReadyH.nil
  cases y
  · have HN : Hid (WishEnd p ⟨1, A, B, C, D, S, wd, ht, px, lv, fo⟩ (.slice a S.length c) (noCmd p)) := hide (by unfold WishEnd; rw [unhide HY]; rfl)
    go_simp
    refine (must_no p _ ((unhide HE).kept (unhide B2))).mono ?_
    rintro e v3 ⟨rfl, hw⟩
    rw [hw]
    clear hw v3 hK
    exact ⟨rfl, unhide HN, unhide B2⟩
  have HO : Hid (WishEnd p ⟨1, A, B, C, D, S, wd, ht, px, lv, fo⟩ (.slice a S.length c) (.returned (.iface 103 (.agg #[])))) := hide (by unfold WishEnd; rw [unhide HY]; rfl)
  go_simp
  refine (must_yes _).mono ?_
  rintro e v3 ⟨rfl, hw⟩
  rw [hw]
  clear hw v3
  refine hK.out _ _ (holdC (w := w) (unhide A2)) (fun hHeld3 => ?_)
  clear hK K hHeld2
  refine wpAnyH_done (by kernel_rfl) ?_ _
  clear hHeld3
  go_wp2_with fail
  go_ret
  exact ⟨unhide HO, unhide B2⟩
set_option maxHeartbeats 4000000 in
set_option maxRecDepth 100000 in
theorem wishOf_2 (S : List D3) (A B C D wd ht lv fo : Int) (px : ByteArray) (a : Option Addr) (c : Nat) (p : Addr) (w : World) (hn : S.length ≤ 1048576) (hc : S.length ≤ c) (hc9 : c ≤ 9223372036854775807) (hS : Dirs w a S S.length) (hE : ErrCmd p w) :
    Calls Tryd.prog 34 #[.agg #[.int .i64 2, .int .i64 A, .int .i64 B, .int .i64 C, .int .i64 D, .slice a S.length c, .int .i64 wd, .int .i64 ht, .string px, .int .i64 lv, .int .i64 fo]] w fun e w' => WishEnd p ⟨2, A, B, C, D, S, wd, ht, px, lv, fo⟩ (.slice a S.length c) e ∧ Below w.heap.size w w' := by
  have B0 := hide (below1 w (.cells #[.int .i64 2, .int .i64 A, .int .i64 B, .int .i64 C, .int .i64 D, .slice a S.length c, .int .i64 wd, .int .i64 ht, .string px, .int .i64 lv, .int .i64 fo] 35))
  have A0 := hide (blk_new w [.int .i64 2, .int .i64 A, .int .i64 B, .int .i64 C, .int .i64 D, .slice a S.length c, .int .i64 wd, .int .i64 ht, .string px, .int .i64 lv, .int .i64 fo] 35)
  obtain ⟨y, hy⟩ : ∃ y, sameC ⟨2, A, B, C, D, [], 0, 0, ⟨#[]⟩, 0, 0⟩ ⟨2, A, B, C, D, S, wd, ht, px, lv, fo⟩ (noS S) = y := ⟨_, rfl⟩
  have cM : Hid (∀ W : World, Below w.heap.size w W → Calls Tryd.prog 74 #[.agg #[.int .i64 2, .int .i64 A, .int .i64 B, .int .i64 C, .int .i64 D, .slice none 0 0, .int .i64 0, .int .i64 0, .string ⟨#[]⟩, .int .i64 0, .int .i64 0], .agg #[.int .i64 2, .int .i64 A, .int .i64 B, .int .i64 C, .int .i64 D, .slice a S.length c, .int .i64 wd, .int .i64 ht, .string px, .int .i64 lv, .int .i64 fo]] W fun e w' => e = .returned (.bool y) ∧ Below W.heap.size W w') := hide (fun W hW => by
    rw [← hy]
    refine sameCommand_any 2 A B C D 0 0 0 0 2 A B C D wd ht lv fo ⟨#[]⟩ px [] S a none S.length 0 c 0 (noS S) W (fun W2 h2 => ?_)
    by_cases h0 : S.length = 0
    · rw [show noS S = true by unfold noS; simp [h0], h0]
      exact equal_same [] none a 0 0 c W2 (by omega) (.inl rfl) (.inl rfl)
    · rw [show noS S = false by unfold noS; simp [h0]]
      exact equal_len none a 0 S.length 0 c W2 (by omega))
  have HE := hide hE
  have hm : ∀ W : World, (method 323 106 (.agg #[.int .i64 A, .int .i64 B, .int .i64 C, .int .i64 D]) "loop.example/g00577/impl.command").run Tryd.prog W = .ok (148, .agg #[.int .i64 A, .int .i64 B, .int .i64 C, .int .i64 D]) W := fun _ => by kernel_rfl
  go_enter Tryd.func34, Tryd.ntmps34
  go_wp2_with fail
  refine (turnRight_any A B C D _).mono ?_
  rintro e u1 ⟨rfl, hx⟩
  have B1 := hide (below_call (unhide B0) hx)
  have A1 := hide ((unhide A0).kept hx)
  clear hx A0 B0
  cases hr : rightT A B C D
  · skip
    have HN : Hid (WishEnd p ⟨2, A, B, C, D, S, wd, ht, px, lv, fo⟩ (.slice a S.length c) (noCmd p)) := hide (by unfold WishEnd; rw [no_2 hr]; rfl)
    go_wp2_with fail
    refine (must_no p _ ((unhide HE).kept (unhide B1))).mono ?_
    rintro e v3 ⟨rfl, hw⟩
    rw [hw]
    clear hw v3
    exact ⟨rfl, unhide HN, unhide B1⟩
  have HY : Hid (cmdB ⟨2, A, B, C, D, S, wd, ht, px, lv, fo⟩ = y) := hide (by rw [← hy]; exact (same_2 S A B C D wd ht lv fo px hr).symm)
  clear hy hS hE hr
  go_wp2_with fail
  refine (must_yes _).mono ?_
  rintro e v3 ⟨rfl, hw⟩
  rw [hw]
  clear hw v3
  have q0 := (unhide A1).cell 0 _ rfl
  have q1 := (unhide A1).cell 1 _ rfl
  have q2 := (unhide A1).cell 2 _ rfl
  have q3 := (unhide A1).cell 3 _ rfl
  have q4 := (unhide A1).cell 4 _ rfl
  have q5 := (unhide A1).cell 5 _ rfl
  have q6 := (unhide A1).cell 6 _ rfl
  have q7 := (unhide A1).cell 7 _ rfl
  have q8 := (unhide A1).cell 8 _ rfl
  have q9 := (unhide A1).cell 9 _ rfl
  have q10 := (unhide A1).cell 10 _ rfl
  go_wp2_with fail
  clear q0 q1 q2 q3 q4 q5 q6 q7 q8 q9 q10
  refine wp_region_held_drew (S := (fun w' => w'.cell? ⟨w.heap.size, 0, none⟩ = some (.int .i64 2) ∧ w'.cell? ⟨w.heap.size, 1, none⟩ = some (.int .i64 A) ∧ w'.cell? ⟨w.heap.size, 2, none⟩ = some (.int .i64 B) ∧ w'.cell? ⟨w.heap.size, 3, none⟩ = some (.int .i64 C) ∧ w'.cell? ⟨w.heap.size, 4, none⟩ = some (.int .i64 D) ∧ w'.cell? ⟨w.heap.size, 5, none⟩ = some (.slice a S.length c) ∧ w'.cell? ⟨w.heap.size, 6, none⟩ = some (.int .i64 wd) ∧ w'.cell? ⟨w.heap.size, 7, none⟩ = some (.int .i64 ht) ∧ w'.cell? ⟨w.heap.size, 8, none⟩ = some (.string px) ∧ w'.cell? ⟨w.heap.size, 9, none⟩ = some (.int .i64 lv) ∧ w'.cell? ⟨w.heap.size, 10, none⟩ = some (.int .i64 fo))) (by kernel_rfl) ?_ (fun hHeld => ?_)
  · exact holdC (w := w) (unhide A1)
  refine wpAnyH_take (i := 0) (v := ?_) rfl (by kernel_rfl) (by kernel_rfl) (by kernel_rfl) (fun _ _ _ h => h) (Or.inl ⟨by rfl, ?_⟩) (by assumption) ?_
  rotate_left
  · intro W0 hSw; (try dsimp only at hSw); go_simp <;> with_reducible rfl
  try simp only [Act.put, List.setIfInBounds_toArray, List.set_cons_zero, List.set_cons_succ]
  refine wpAnyH_take (i := 2) (v := ?_) rfl (by kernel_rfl) (by kernel_rfl) (by kernel_rfl) (fun _ _ _ h => h) (Or.inl ⟨by rfl, ?_⟩) (by assumption) ?_
  rotate_left
  · intro W0 hSw; (try dsimp only at hSw); go_simp <;> with_reducible rfl
  try simp only [Act.put, List.setIfInBounds_toArray, List.set_cons_zero, List.set_cons_succ]
  have Bd := hide ((unhide B1).drew)
  have Ad := hide ((unhide A1).drewn)
  generalize hV : World.drew _ = V at Bd Ad hHeld ⊢
  clear hV
  refine wpAnyH_ready (rs := [1]) (by kernel_rfl) (by simp) ?_
  refine AllReadyH.cons rfl (fun K hK => ?_) AllReadyH.nil
  go_simp
  refine (gyroCmd_any A B C D _).mono ?_
  rintro e v1 ⟨rfl, hx⟩
  have B1 := hide (below_call (unhide Bd) hx)
  have A1 := hide ((unhide Ad).kept hx)
  clear hx Bd Ad
  refine hK.out _ _ (holdC (w := w) (unhide A1)) (fun hHeld1 => ?_)
  clear hK K hHeld
  refine wpAnyH_ready (rs := [3]) (by kernel_rfl) (by simp) ?_
  refine AllReadyH.cons rfl (fun K hK => ?_) AllReadyH.nil
  go_simp
  refine (unhide cM _ (unhide B1)).mono ?_
  rintro e v2 ⟨rfl, hx⟩
  have B2 := hide (below_call (unhide B1) hx)
  have A2 := hide ((unhide A1).kept hx)
  clear hx B1 A1
  refine hK.out _ _ (holdC (w := w) (unhide A2)) (fun hHeld2 => ?_)
  clear hK K hHeld1
  refine wpAnyH_ready (rs := [4]) (by kernel_rfl) (by simp) ?_
  refine AllReadyH.cons rfl (fun K hK => ?_) AllReadyH.nil
  cases y
  · have HN : Hid (WishEnd p ⟨2, A, B, C, D, S, wd, ht, px, lv, fo⟩ (.slice a S.length c) (noCmd p)) := hide (by unfold WishEnd; rw [unhide HY]; rfl)
    go_simp
    refine (must_no p _ ((unhide HE).kept (unhide B2))).mono ?_
    rintro e v3 ⟨rfl, hw⟩
    rw [hw]
    clear hw v3 hK
    exact ⟨rfl, unhide HN, unhide B2⟩
  have HO : Hid (WishEnd p ⟨2, A, B, C, D, S, wd, ht, px, lv, fo⟩ (.slice a S.length c) (.returned (.iface 106 (.agg #[.int .i64 A, .int .i64 B, .int .i64 C, .int .i64 D])))) := hide (by unfold WishEnd; rw [unhide HY]; rfl)
  go_simp
  refine (must_yes _).mono ?_
  rintro e v3 ⟨rfl, hw⟩
  rw [hw]
  clear hw v3
  refine hK.out _ _ (holdC (w := w) (unhide A2)) (fun hHeld3 => ?_)
  clear hK K hHeld2
  refine wpAnyH_done (by kernel_rfl) ?_ _
  clear hHeld3
  go_wp2_with fail
  go_ret
  exact ⟨unhide HO, unhide B2⟩
set_option maxHeartbeats 4000000 in
set_option maxRecDepth 100000 in
theorem wishOf_3 (S : List D3) (A B C D wd ht lv fo : Int) (px : ByteArray) (a : Option Addr) (c : Nat) (p : Addr) (w : World) (hn : S.length ≤ 1048576) (hc : S.length ≤ c) (hc9 : c ≤ 9223372036854775807) (hS : Dirs w a S S.length) (hE : ErrCmd p w) :
    Calls Tryd.prog 34 #[.agg #[.int .i64 3, .int .i64 A, .int .i64 B, .int .i64 C, .int .i64 D, .slice a S.length c, .int .i64 wd, .int .i64 ht, .string px, .int .i64 lv, .int .i64 fo]] w fun e w' => WishEnd p ⟨3, A, B, C, D, S, wd, ht, px, lv, fo⟩ (.slice a S.length c) e ∧ Below w.heap.size w w' := by
  have B0 := hide (below1 w (.cells #[.int .i64 3, .int .i64 A, .int .i64 B, .int .i64 C, .int .i64 D, .slice a S.length c, .int .i64 wd, .int .i64 ht, .string px, .int .i64 lv, .int .i64 fo] 35))
  have A0 := hide (blk_new w [.int .i64 3, .int .i64 A, .int .i64 B, .int .i64 C, .int .i64 D, .slice a S.length c, .int .i64 wd, .int .i64 ht, .string px, .int .i64 lv, .int .i64 fo] 35)
  obtain ⟨y, hy⟩ : ∃ y, sameC ⟨3, 0, 0, 0, 0, S, 0, 0, ⟨#[]⟩, 0, 0⟩ ⟨3, A, B, C, D, S, wd, ht, px, lv, fo⟩ (true) = y := ⟨_, rfl⟩
  have cM : Hid (∀ W : World, Below w.heap.size w W → Calls Tryd.prog 74 #[.agg #[.int .i64 3, .int .i64 0, .int .i64 0, .int .i64 0, .int .i64 0, .slice a S.length c, .int .i64 0, .int .i64 0, .string ⟨#[]⟩, .int .i64 0, .int .i64 0], .agg #[.int .i64 3, .int .i64 A, .int .i64 B, .int .i64 C, .int .i64 D, .slice a S.length c, .int .i64 wd, .int .i64 ht, .string px, .int .i64 lv, .int .i64 fo]] W fun e w' => e = .returned (.bool y) ∧ Below W.heap.size W w') := hide (fun W hW => by
    rw [← hy]
    refine sameCommand_any 3 0 0 0 0 0 0 0 0 3 A B C D wd ht lv fo ⟨#[]⟩ px S S a a S.length S.length c c (true) W (fun W2 h2 => ?_)
    exact equal_same S a a S.length c c W2 hn ((hS.kept hW).kept h2) ((hS.kept hW).kept h2))
  have HE := hide hE
  have hm : ∀ W : World, (method 323 108 (.agg #[.slice a S.length c]) "loop.example/g00577/impl.command").run Tryd.prog W = .ok (150, .agg #[.slice a S.length c]) W := fun _ => by kernel_rfl
  have cP := hide (spotsRight_any S a c _ hn hc hc9 (hS.kept (unhide B0)))
  go_enter Tryd.func34, Tryd.ntmps34
  go_wp2_with fail
  refine (unhide cP).mono ?_
  rintro e u1 ⟨rfl, hx⟩
  have B1 := hide (below_call (unhide B0) hx)
  have A1 := hide ((unhide A0).kept hx)
  clear hx A0 B0
  cases hr : spotsB S
  · skip
    have HN : Hid (WishEnd p ⟨3, A, B, C, D, S, wd, ht, px, lv, fo⟩ (.slice a S.length c) (noCmd p)) := hide (by unfold WishEnd; rw [no_3 hr]; rfl)
    go_wp2_with fail
    refine (must_no p _ ((unhide HE).kept (unhide B1))).mono ?_
    rintro e v3 ⟨rfl, hw⟩
    rw [hw]
    clear hw v3
    exact ⟨rfl, unhide HN, unhide B1⟩
  have HY : Hid (cmdB ⟨3, A, B, C, D, S, wd, ht, px, lv, fo⟩ = y) := hide (by rw [← hy]; exact (same_3 S A B C D wd ht lv fo px hr).symm)
  clear hy hS hE hr
  go_wp2_with fail
  refine (must_yes _).mono ?_
  rintro e v3 ⟨rfl, hw⟩
  rw [hw]
  clear hw v3
  have q0 := (unhide A1).cell 0 _ rfl
  have q1 := (unhide A1).cell 1 _ rfl
  have q2 := (unhide A1).cell 2 _ rfl
  have q3 := (unhide A1).cell 3 _ rfl
  have q4 := (unhide A1).cell 4 _ rfl
  have q5 := (unhide A1).cell 5 _ rfl
  have q6 := (unhide A1).cell 6 _ rfl
  have q7 := (unhide A1).cell 7 _ rfl
  have q8 := (unhide A1).cell 8 _ rfl
  have q9 := (unhide A1).cell 9 _ rfl
  have q10 := (unhide A1).cell 10 _ rfl
  go_wp2_with fail
  clear q0 q1 q2 q3 q4 q5 q6 q7 q8 q9 q10
  refine wp_region_held_drew (S := (fun w' => w'.cell? ⟨w.heap.size, 0, none⟩ = some (.int .i64 3) ∧ w'.cell? ⟨w.heap.size, 1, none⟩ = some (.int .i64 A) ∧ w'.cell? ⟨w.heap.size, 2, none⟩ = some (.int .i64 B) ∧ w'.cell? ⟨w.heap.size, 3, none⟩ = some (.int .i64 C) ∧ w'.cell? ⟨w.heap.size, 4, none⟩ = some (.int .i64 D) ∧ w'.cell? ⟨w.heap.size, 5, none⟩ = some (.slice a S.length c) ∧ w'.cell? ⟨w.heap.size, 6, none⟩ = some (.int .i64 wd) ∧ w'.cell? ⟨w.heap.size, 7, none⟩ = some (.int .i64 ht) ∧ w'.cell? ⟨w.heap.size, 8, none⟩ = some (.string px) ∧ w'.cell? ⟨w.heap.size, 9, none⟩ = some (.int .i64 lv) ∧ w'.cell? ⟨w.heap.size, 10, none⟩ = some (.int .i64 fo))) (by kernel_rfl) ?_ (fun hHeld => ?_)
  · exact holdC (w := w) (unhide A1)
  refine wpAnyH_take (i := 0) (v := ?_) rfl (by kernel_rfl) (by kernel_rfl) (by kernel_rfl) (fun _ _ _ h => h) (Or.inl ⟨by rfl, ?_⟩) (by assumption) ?_
  rotate_left
  · intro W0 hSw; (try dsimp only at hSw); go_simp <;> with_reducible rfl
  try simp only [Act.put, List.setIfInBounds_toArray, List.set_cons_zero, List.set_cons_succ]
  refine wpAnyH_take (i := 2) (v := ?_) rfl (by kernel_rfl) (by kernel_rfl) (by kernel_rfl) (fun _ _ _ h => h) (Or.inl ⟨by rfl, ?_⟩) (by assumption) ?_
  rotate_left
  · intro W0 hSw; (try dsimp only at hSw); go_simp <;> with_reducible rfl
  try simp only [Act.put, List.setIfInBounds_toArray, List.set_cons_zero, List.set_cons_succ]
  have Bd := hide ((unhide B1).drew)
  have Ad := hide ((unhide A1).drewn)
  generalize hV : World.drew _ = V at Bd Ad hHeld ⊢
  clear hV
  refine wpAnyH_ready (rs := [1]) (by kernel_rfl) (by simp) ?_
  refine AllReadyH.cons rfl (fun K hK => ?_) AllReadyH.nil
  go_simp
  refine (lookCmd_any a S.length c _).mono ?_
  rintro e v1 ⟨rfl, hx⟩
  have B1 := hide (below_call (unhide Bd) hx)
  have A1 := hide ((unhide Ad).kept hx)
  clear hx Bd Ad
  refine hK.out _ _ (holdC (w := w) (unhide A1)) (fun hHeld1 => ?_)
  clear hK K hHeld
  refine wpAnyH_ready (rs := [3]) (by kernel_rfl) (by simp) ?_
  refine AllReadyH.cons rfl (fun K hK => ?_) AllReadyH.nil
  go_simp
  refine (unhide cM _ (unhide B1)).mono ?_
  rintro e v2 ⟨rfl, hx⟩
  have B2 := hide (below_call (unhide B1) hx)
  have A2 := hide ((unhide A1).kept hx)
  clear hx B1 A1
  refine hK.out _ _ (holdC (w := w) (unhide A2)) (fun hHeld2 => ?_)
  clear hK K hHeld1
  refine wpAnyH_ready (rs := [4]) (by kernel_rfl) (by simp) ?_
  refine AllReadyH.cons rfl (fun K hK => ?_) AllReadyH.nil
  cases y
  · have HN : Hid (WishEnd p ⟨3, A, B, C, D, S, wd, ht, px, lv, fo⟩ (.slice a S.length c) (noCmd p)) := hide (by unfold WishEnd; rw [unhide HY]; rfl)
    go_simp
    refine (must_no p _ ((unhide HE).kept (unhide B2))).mono ?_
    rintro e v3 ⟨rfl, hw⟩
    rw [hw]
    clear hw v3 hK
    exact ⟨rfl, unhide HN, unhide B2⟩
  have HO : Hid (WishEnd p ⟨3, A, B, C, D, S, wd, ht, px, lv, fo⟩ (.slice a S.length c) (.returned (.iface 108 (.agg #[.slice a S.length c])))) := hide (by unfold WishEnd; rw [unhide HY]; rfl)
  go_simp
  refine (must_yes _).mono ?_
  rintro e v3 ⟨rfl, hw⟩
  rw [hw]
  clear hw v3
  refine hK.out _ _ (holdC (w := w) (unhide A2)) (fun hHeld3 => ?_)
  clear hK K hHeld2
  refine wpAnyH_done (by kernel_rfl) ?_ _
  clear hHeld3
  go_wp2_with fail
  go_ret
  exact ⟨unhide HO, unhide B2⟩
set_option maxHeartbeats 4000000 in
set_option maxRecDepth 100000 in
theorem wishOf_4 (S : List D3) (A B C D wd ht lv fo : Int) (px : ByteArray) (a : Option Addr) (c : Nat) (p : Addr) (w : World) (hn : S.length ≤ 1048576) (hc : S.length ≤ c) (hc9 : c ≤ 9223372036854775807) (hS : Dirs w a S S.length) (hE : ErrCmd p w) :
    Calls Tryd.prog 34 #[.agg #[.int .i64 4, .int .i64 A, .int .i64 B, .int .i64 C, .int .i64 D, .slice a S.length c, .int .i64 wd, .int .i64 ht, .string px, .int .i64 lv, .int .i64 fo]] w fun e w' => WishEnd p ⟨4, A, B, C, D, S, wd, ht, px, lv, fo⟩ (.slice a S.length c) e ∧ Below w.heap.size w w' := by
  have B0 := hide (below1 w (.cells #[.int .i64 4, .int .i64 A, .int .i64 B, .int .i64 C, .int .i64 D, .slice a S.length c, .int .i64 wd, .int .i64 ht, .string px, .int .i64 lv, .int .i64 fo] 35))
  have A0 := hide (blk_new w [.int .i64 4, .int .i64 A, .int .i64 B, .int .i64 C, .int .i64 D, .slice a S.length c, .int .i64 wd, .int .i64 ht, .string px, .int .i64 lv, .int .i64 fo] 35)
  obtain ⟨y, hy⟩ : ∃ y, sameC ⟨4, 0, 0, 0, 0, [], wd, ht, px, lv, fo⟩ ⟨4, A, B, C, D, S, wd, ht, px, lv, fo⟩ (noS S) = y := ⟨_, rfl⟩
  have cM : Hid (∀ W : World, Below w.heap.size w W → Calls Tryd.prog 74 #[.agg #[.int .i64 4, .int .i64 0, .int .i64 0, .int .i64 0, .int .i64 0, .slice none 0 0, .int .i64 wd, .int .i64 ht, .string px, .int .i64 lv, .int .i64 fo], .agg #[.int .i64 4, .int .i64 A, .int .i64 B, .int .i64 C, .int .i64 D, .slice a S.length c, .int .i64 wd, .int .i64 ht, .string px, .int .i64 lv, .int .i64 fo]] W fun e w' => e = .returned (.bool y) ∧ Below W.heap.size W w') := hide (fun W hW => by
    rw [← hy]
    refine sameCommand_any 4 0 0 0 0 wd ht lv fo 4 A B C D wd ht lv fo px px [] S a none S.length 0 c 0 (noS S) W (fun W2 h2 => ?_)
    by_cases h0 : S.length = 0
    · rw [show noS S = true by unfold noS; simp [h0], h0]
      exact equal_same [] none a 0 0 c W2 (by omega) (.inl rfl) (.inl rfl)
    · rw [show noS S = false by unfold noS; simp [h0]]
      exact equal_len none a 0 S.length 0 c W2 (by omega))
  have HE := hide hE
  have hm : ∀ W : World, (method 323 111 (.agg #[.int .i64 wd, .int .i64 ht, .string px, .int .i64 lv, .int .i64 fo]) "loop.example/g00577/impl.command").run Tryd.prog W = .ok (152, .agg #[.int .i64 wd, .int .i64 ht, .string px, .int .i64 lv, .int .i64 fo]) W := fun _ => by kernel_rfl
  go_enter Tryd.func34, Tryd.ntmps34
  go_wp2_with fail
  refine (frameRight_any wd ht px _).mono ?_
  rintro e u1 ⟨rfl, hx⟩
  have B1 := hide (below_call (unhide B0) hx)
  have A1 := hide ((unhide A0).kept hx)
  clear hx A0 B0
  cases hr : frameB wd ht px
  · skip
    have HN : Hid (WishEnd p ⟨4, A, B, C, D, S, wd, ht, px, lv, fo⟩ (.slice a S.length c) (noCmd p)) := hide (by unfold WishEnd; rw [no_4 hr]; rfl)
    go_wp2_with fail
    refine (must_no p _ ((unhide HE).kept (unhide B1))).mono ?_
    rintro e v3 ⟨rfl, hw⟩
    rw [hw]
    clear hw v3
    exact ⟨rfl, unhide HN, unhide B1⟩
  have q0 := (unhide A1).cell 0 _ rfl
  have q1 := (unhide A1).cell 1 _ rfl
  have q2 := (unhide A1).cell 2 _ rfl
  have q3 := (unhide A1).cell 3 _ rfl
  have q4 := (unhide A1).cell 4 _ rfl
  have q5 := (unhide A1).cell 5 _ rfl
  have q6 := (unhide A1).cell 6 _ rfl
  have q7 := (unhide A1).cell 7 _ rfl
  have q8 := (unhide A1).cell 8 _ rfl
  have q9 := (unhide A1).cell 9 _ rfl
  have q10 := (unhide A1).cell 10 _ rfl
  go_wp2_with fail
  refine (isLevelC lv _).mono ?_
  rintro e v3 ⟨rfl, hw⟩
  rw [hw]
  clear hw v3
  cases hl : spanB 0 255 lv
  · skip
    have HN : Hid (WishEnd p ⟨4, A, B, C, D, S, wd, ht, px, lv, fo⟩ (.slice a S.length c) (noCmd p)) := hide (by unfold WishEnd; rw [no_4l hl]; rfl)
    go_wp2_with fail
    refine (must_no p _ ((unhide HE).kept (unhide B1))).mono ?_
    rintro e v3 ⟨rfl, hw⟩
    rw [hw]
    clear hw v3
    exact ⟨rfl, unhide HN, unhide B1⟩
  go_wp2_with fail
  refine (isFocalC fo _).mono ?_
  rintro e v3 ⟨rfl, hw⟩
  rw [hw]
  clear hw v3
  cases hf : spanB 1 40 fo
  · skip
    have HN : Hid (WishEnd p ⟨4, A, B, C, D, S, wd, ht, px, lv, fo⟩ (.slice a S.length c) (noCmd p)) := hide (by unfold WishEnd; rw [no_4f hf]; rfl)
    go_wp2_with fail
    refine (must_no p _ ((unhide HE).kept (unhide B1))).mono ?_
    rintro e v3 ⟨rfl, hw⟩
    rw [hw]
    clear hw v3
    exact ⟨rfl, unhide HN, unhide B1⟩
  clear q0 q1 q2 q3 q4 q5 q6 q7 q8 q9 q10
  have HY : Hid (cmdB ⟨4, A, B, C, D, S, wd, ht, px, lv, fo⟩ = y) := hide (by rw [← hy]; exact (same_4 S A B C D wd ht lv fo px hr hl hf).symm)
  clear hy hS hE hr hl hf
  go_wp2_with fail
  refine (must_yes _).mono ?_
  rintro e v3 ⟨rfl, hw⟩
  rw [hw]
  clear hw v3
  have q0 := (unhide A1).cell 0 _ rfl
  have q1 := (unhide A1).cell 1 _ rfl
  have q2 := (unhide A1).cell 2 _ rfl
  have q3 := (unhide A1).cell 3 _ rfl
  have q4 := (unhide A1).cell 4 _ rfl
  have q5 := (unhide A1).cell 5 _ rfl
  have q6 := (unhide A1).cell 6 _ rfl
  have q7 := (unhide A1).cell 7 _ rfl
  have q8 := (unhide A1).cell 8 _ rfl
  have q9 := (unhide A1).cell 9 _ rfl
  have q10 := (unhide A1).cell 10 _ rfl
  go_wp2_with fail
  clear q0 q1 q2 q3 q4 q5 q6 q7 q8 q9 q10
  refine wp_region_held_drew (S := (fun w' => w'.cell? ⟨w.heap.size, 0, none⟩ = some (.int .i64 4) ∧ w'.cell? ⟨w.heap.size, 1, none⟩ = some (.int .i64 A) ∧ w'.cell? ⟨w.heap.size, 2, none⟩ = some (.int .i64 B) ∧ w'.cell? ⟨w.heap.size, 3, none⟩ = some (.int .i64 C) ∧ w'.cell? ⟨w.heap.size, 4, none⟩ = some (.int .i64 D) ∧ w'.cell? ⟨w.heap.size, 5, none⟩ = some (.slice a S.length c) ∧ w'.cell? ⟨w.heap.size, 6, none⟩ = some (.int .i64 wd) ∧ w'.cell? ⟨w.heap.size, 7, none⟩ = some (.int .i64 ht) ∧ w'.cell? ⟨w.heap.size, 8, none⟩ = some (.string px) ∧ w'.cell? ⟨w.heap.size, 9, none⟩ = some (.int .i64 lv) ∧ w'.cell? ⟨w.heap.size, 10, none⟩ = some (.int .i64 fo))) (by kernel_rfl) ?_ (fun hHeld => ?_)
  · exact holdC (w := w) (unhide A1)
  refine wpAnyH_take (i := 0) (v := ?_) rfl (by kernel_rfl) (by kernel_rfl) (by kernel_rfl) (fun _ _ _ h => h) (Or.inl ⟨by rfl, ?_⟩) (by assumption) ?_
  rotate_left
  · intro W0 hSw; (try dsimp only at hSw); go_simp <;> with_reducible rfl
  try simp only [Act.put, List.setIfInBounds_toArray, List.set_cons_zero, List.set_cons_succ]
  refine wpAnyH_take (i := 2) (v := ?_) rfl (by kernel_rfl) (by kernel_rfl) (by kernel_rfl) (fun _ _ _ h => h) (Or.inl ⟨by rfl, ?_⟩) (by assumption) ?_
  rotate_left
  · intro W0 hSw; (try dsimp only at hSw); go_simp <;> with_reducible rfl
  try simp only [Act.put, List.setIfInBounds_toArray, List.set_cons_zero, List.set_cons_succ]
  have Bd := hide ((unhide B1).drew)
  have Ad := hide ((unhide A1).drewn)
  generalize hV : World.drew _ = V at Bd Ad hHeld ⊢
  clear hV
  refine wpAnyH_ready (rs := [1]) (by kernel_rfl) (by simp) ?_
  refine AllReadyH.cons rfl (fun K hK => ?_) AllReadyH.nil
  go_simp
  refine (frameCmd_any wd ht lv fo px _).mono ?_
  rintro e v1 ⟨rfl, hx⟩
  have B1 := hide (below_call (unhide Bd) hx)
  have A1 := hide ((unhide Ad).kept hx)
  clear hx Bd Ad
  refine hK.out _ _ (holdC (w := w) (unhide A1)) (fun hHeld1 => ?_)
  clear hK K hHeld
  refine wpAnyH_ready (rs := [3]) (by kernel_rfl) (by simp) ?_
  refine AllReadyH.cons rfl (fun K hK => ?_) AllReadyH.nil
  go_simp
  refine (unhide cM _ (unhide B1)).mono ?_
  rintro e v2 ⟨rfl, hx⟩
  have B2 := hide (below_call (unhide B1) hx)
  have A2 := hide ((unhide A1).kept hx)
  clear hx B1 A1
  refine hK.out _ _ (holdC (w := w) (unhide A2)) (fun hHeld2 => ?_)
  clear hK K hHeld1
  refine wpAnyH_ready (rs := [4]) (by kernel_rfl) (by simp) ?_
  refine AllReadyH.cons rfl (fun K hK => ?_) AllReadyH.nil
  cases y
  · have HN : Hid (WishEnd p ⟨4, A, B, C, D, S, wd, ht, px, lv, fo⟩ (.slice a S.length c) (noCmd p)) := hide (by unfold WishEnd; rw [unhide HY]; rfl)
    go_simp
    refine (must_no p _ ((unhide HE).kept (unhide B2))).mono ?_
    rintro e v3 ⟨rfl, hw⟩
    rw [hw]
    clear hw v3 hK
    exact ⟨rfl, unhide HN, unhide B2⟩
  have HO : Hid (WishEnd p ⟨4, A, B, C, D, S, wd, ht, px, lv, fo⟩ (.slice a S.length c) (.returned (.iface 111 (.agg #[.int .i64 wd, .int .i64 ht, .string px, .int .i64 lv, .int .i64 fo])))) := hide (by unfold WishEnd; rw [unhide HY]; rfl)
  go_simp
  refine (must_yes _).mono ?_
  rintro e v3 ⟨rfl, hw⟩
  rw [hw]
  clear hw v3
  refine hK.out _ _ (holdC (w := w) (unhide A2)) (fun hHeld3 => ?_)
  clear hK K hHeld2
  refine wpAnyH_done (by kernel_rfl) ?_ _
  clear hHeld3
  go_wp2_with fail
  go_ret
  exact ⟨unhide HO, unhide B2⟩
set_option maxRecDepth 100000 in
theorem wishOf_n (S : List D3) (kind A B C D wd ht lv fo : Int) (px : ByteArray) (a : Option Addr) (c : Nat) (p : Addr) (w : World) (h1 : kind ≠ 1) (h2 : kind ≠ 2) (h3 : kind ≠ 3) (h4 : kind ≠ 4) (hE : ErrCmd p w) :
    Calls Tryd.prog 34 #[.agg #[.int .i64 kind, .int .i64 A, .int .i64 B, .int .i64 C, .int .i64 D, .slice a S.length c, .int .i64 wd, .int .i64 ht, .string px, .int .i64 lv, .int .i64 fo]] w fun e w' => WishEnd p ⟨kind, A, B, C, D, S, wd, ht, px, lv, fo⟩ (.slice a S.length c) e ∧ Below w.heap.size w w' := by
  have B0 := hide (below1 w (.cells #[.int .i64 kind, .int .i64 A, .int .i64 B, .int .i64 C, .int .i64 D, .slice a S.length c, .int .i64 wd, .int .i64 ht, .string px, .int .i64 lv, .int .i64 fo] 35))
  have E0 := hE.kept (unhide B0)
  unfold ErrCmd at E0
  have HN : Hid (WishEnd p ⟨kind, A, B, C, D, S, wd, ht, px, lv, fo⟩ (.slice a S.length c) (noCmd p)) := hide (by unfold WishEnd; rw [cmd_n h1 h2 h3 h4]; rfl)
  clear hE
  go_enter Tryd.func34, Tryd.ntmps34
  go_wp2_with fail
  exact ⟨rfl, unhide HN, unhide B0⟩
theorem wishOf_any (S : List D3) (kind A B C D wd ht lv fo : Int) (px : ByteArray) (a : Option Addr) (c : Nat) (p : Addr) (w : World) (hn : S.length ≤ 1048576) (hc : S.length ≤ c) (hc9 : c ≤ 9223372036854775807) (hS : Dirs w a S S.length) (hE : ErrCmd p w) :
    Calls Tryd.prog 34 #[.agg #[.int .i64 kind, .int .i64 A, .int .i64 B, .int .i64 C, .int .i64 D, .slice a S.length c, .int .i64 wd, .int .i64 ht, .string px, .int .i64 lv, .int .i64 fo]] w fun e w' => WishEnd p ⟨kind, A, B, C, D, S, wd, ht, px, lv, fo⟩ (.slice a S.length c) e ∧ Below w.heap.size w w' := by
  by_cases h1 : kind = 1
  · subst h1; exact wishOf_1 S A B C D wd ht lv fo px a c p w hn hc hc9 hS hE
  by_cases h2 : kind = 2
  · subst h2; exact wishOf_2 S A B C D wd ht lv fo px a c p w hn hc hc9 hS hE
  by_cases h3 : kind = 3
  · subst h3; exact wishOf_3 S A B C D wd ht lv fo px a c p w hn hc hc9 hS hE
  by_cases h4 : kind = 4
  · subst h4; exact wishOf_4 S A B C D wd ht lv fo px a c p w hn hc hc9 hS hE
  exact wishOf_n S kind A B C D wd ht lv fo px a c p w h1 h2 h3 h4 hE
end Go.Proofs.YtnffnjljjecphaaDoor

namespace Go.Proofs.YtnffnjljjecphaaDoor
open Go.RowKit Go.Extern.Stop Go.Stop Go.Extern
set_option linter.unusedVariables false

theorem isTypeOf (v : Value) (w : World) : (Extern.ReflectliteType.typeOf #[.iface 182 v]).run Tryd.prog w = .ok (.iface 170 (.agg #[.pointer (some ⟨2, 182, none⟩)])) w := by kernel_rfl
theorem isComparable (w : World) : (callFunc 160 #[.agg #[.pointer (some ⟨2, 182, none⟩)]]).run Tryd.prog w = .ok (Next.value (.bool true)) w :=
  (@run_callFunc_extern Tryd.prog 160 _ (Extern.ReflectliteType.method fun t => do Extern.Rtype.noPackHeld "Comparable" t; pure (.bool (← typeInfo t).comparable)) Tryd.func160 (by kernel_rfl) (by kernel_rfl) (by kernel_rfl) (by kernel_rfl) _ w).trans (by kernel_rfl)
theorem isMethodComparable (v : Value) (w : World) : (Go.method 323 170 v "Comparable").run Tryd.prog w = .ok (160, v) w := by kernel_rfl
theorem isComp : (Tryd.prog.info? 182).map (·.comparable) = some true := by kernel_rfl
theorem isSize : (Tryd.prog.info? 207).map (·.size) = some 1 := by kernel_rfl
theorem noIsW (v : Value) (xT : TypeId) (w : World) : (Instr.typeAssert (.iface 165 v) xT 172 true).run Tryd.prog w = .ok (.tuple #[.nilIface, .bool false]) w := run_typeAssert_lacksB Tryd.underlying172 (by kernel_rfl) (by kernel_rfl) v xT w
theorem hasUnwrapW (v : Value) (xT : TypeId) (w : World) : (Instr.typeAssert (.iface 165 v) xT 175 true).run Tryd.prog w = .ok (.tuple #[.iface 165 v, .bool true]) w := run_typeAssert_hasB Tryd.underlying175 (by kernel_rfl) v xT w
theorem methodUnwrap (v : Value) (w : World) : (Go.method 323 165 v "Unwrap").run Tryd.prog w = .ok (156, v) w := by kernel_rfl

/-- the program's errNoSky holds a pointer to an errors.errorString -/
def ErrSky (b : Addr) (w : World) : Prop := w.cell? ⟨1, 0, none⟩ = some (.iface 182 (.pointer (some b)))
theorem ErrSky.lt {b : Addr} {w : World} (h : ErrSky b w) : 1 < w.heap.size := World.block_lt_of_cell? w _ h
theorem ErrSky.kept {b : Addr} {w w' : World} (h : ErrSky b w) (hB : Below w.heap.size w w') : ErrSky b w' := by
  unfold ErrSky
  rw [hB.cell (p := ⟨1, 0, none⟩) h.lt]
  exact h

theorem is_nil (b : Addr) (w : World) :
    Calls Tryd.prog 109 #[.nilIface, .iface 182 (.pointer (some b))] w fun e w' => e = .returned (.bool false) ∧ w' = w := by
  have hn := run_eql_iface_nil_left (P := Tryd.prog) w 182 (.pointer (some b)) Tryd.underlying113
  go_enter Tryd.func109, Tryd.ntmps109
  go_wp2
  go_ret
  exact ⟨rfl, rfl⟩

theorem unwrap_any (why : ByteArray) (b : Addr) (w : World) (h : ErrSky b w) :
    Calls Tryd.prog 156 #[.agg #[.string why]] w fun e w' => e = .returned (.iface 182 (.pointer (some b))) ∧ Below w.heap.size w w' := by
  have h' : ErrSky b (w.alloc (.cells #[.string why] 165)) := h.kept (below1 _ _)
  unfold ErrSky at h'
  go_enter Tryd.func156, Tryd.ntmps156
  go_wp2
  go_ret
  exact ⟨rfl, below1 _ _⟩

set_option maxHeartbeats 1000000 in
theorem is_fault (why : ByteArray) (b : Addr) (w : World) (h : ErrSky b w) :
    Calls Tryd.prog 109 #[.iface 165 (.agg #[.string why]), .iface 182 (.pointer (some b))] w fun e w' => e = .returned (.bool true) ∧ Below w.heap.size w w' := by
  obtain ⟨i, hi, hcmp⟩ := Option.map_eq_some_iff.1 isComp
  obtain ⟨j, hj, hjs⟩ := Option.map_eq_some_iff.1 isSize
  have h8 := @run_callFunc_extern Tryd.prog 118 _ Extern.ReflectliteType.typeOf Tryd.func118 (by kernel_rfl) (by kernel_rfl) (by kernel_rfl) (by kernel_rfl)
  have tT := isTypeOf
  have cT := isComparable
  have mR := isMethodComparable
  have nW := noIsW
  have uW := hasUnwrapW
  have mU := methodUnwrap
  have heq := fun w => run_eql_iface_ptr_same (P := Tryd.prog) w b Tryd.underlying113 Tryd.underlying182 hi hcmp hj
  have hty := fun w => run_eql_iface_types (P := Tryd.prog) 165 182 (.agg #[.string why]) (.pointer (some b)) Tryd.underlying113 (by decide) w
  have HE := hide h
  clear h
  go_enter Tryd.func109, Tryd.ntmps109
  go_wp2
  refine wp_loop_rounds 2 ?_
  rw [rounds_succ]
  go_wp2_with (go_at_call 156; refine (unwrap_any why b _ (unhide HE)).mono ?_; rintro e w1 ⟨rfl, hx⟩)
  rw [rounds_succ]
  go_wp2
  go_ret
  exact ⟨rfl, hx⟩
end Go.Proofs.YtnffnjljjecphaaDoor
