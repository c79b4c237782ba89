/- Several texts in one: CmD, CmE. -/
import Derived.Deep.RegionHeld
import Derived.Test.YteoonaanoenjiaaGreatDoorQObeyOwn23
import Derived.Test.YteoonaanoenjiaaGreatDoorQObeyOwn8
import Derived.Test.YteoonaanoenjiaaGreatDoorQObeyOwn6
namespace Go.Proofs.YteoonaanoenjiaaGreatDoor
open Go.RowKit Go.Sort
set_option linter.unusedVariables false
set_option linter.unusedSimpArgs false
def wishV (kind A B C D : Int) (v : Value) (wd ht : Int) (px : ByteArray) (lv fo : Int) : Value :=
  if kind = 1 then .iface 120 (.agg #[])
  else if kind = 2 then .iface 122 (.agg #[.int .i64 A, .int .i64 B, .int .i64 C, .int .i64 D])
  else if kind = 3 then .iface 124 (.agg #[v])
  else .iface 126 (.agg #[.int .i64 wd, .int .i64 ht, .string px, .int .i64 lv, .int .i64 fo])
def WishEnd (p : Addr) (c : Cm) (v : Value) (e : Ending) : Prop := if cmdB c = true then e = .returned (wishV c.kind c.A c.B c.C c.D v c.wd c.ht c.px c.lv c.fo) else e = noCmd p
theorem holdC {w W : World} {b : Nat} {kind A B C D wd ht lv fo : Int} {px : ByteArray} {v : Value} (h : Blk W b [.int .i64 kind, .int .i64 A, .int .i64 B, .int .i64 C, .int .i64 D, v, .int .i64 wd, .int .i64 ht, .string px, .int .i64 lv, .int .i64 fo] 45) : W.cell? ⟨b, 0, none⟩ = some (.int .i64 kind) ∧ W.cell? ⟨b, 1, none⟩ = some (.int .i64 A) ∧ W.cell? ⟨b, 2, none⟩ = some (.int .i64 B) ∧ W.cell? ⟨b, 3, none⟩ = some (.int .i64 C) ∧ W.cell? ⟨b, 4, none⟩ = some (.int .i64 D) ∧ W.cell? ⟨b, 5, none⟩ = some v ∧ W.cell? ⟨b, 6, none⟩ = some (.int .i64 wd) ∧ W.cell? ⟨b, 7, none⟩ = some (.int .i64 ht) ∧ W.cell? ⟨b, 8, none⟩ = some (.string px) ∧ W.cell? ⟨b, 9, none⟩ = some (.int .i64 lv) ∧ W.cell? ⟨b, 10, none⟩ = some (.int .i64 fo) :=
  ⟨h.cell 0 _ rfl, h.cell 1 _ rfl, h.cell 2 _ rfl, h.cell 3 _ rfl, h.cell 4 _ rfl, h.cell 5 _ rfl, h.cell 6 _ rfl, h.cell 7 _ rfl, h.cell 8 _ rfl, h.cell 9 _ rfl, h.cell 10 _ rfl⟩
theorem eqT_self (a b c d : Int) : eqT a b c d a b c d = true := by unfold eqT; simp
theorem eqT_zero (a b c d : Int) : eqT 0 0 0 0 a b c d = eqT a b c d 0 0 0 0 := by
  unfold eqT
  by_cases h : a = 0 ∧ b = 0 ∧ c = 0 ∧ d = 0
  · rw [decide_eq_true h, decide_eq_true (by omega)]
  · rw [decide_eq_false h, decide_eq_false (by omega)]
theorem dec_zero (a : Int) : decide (0 = a) = decide (a = 0) := by
  by_cases h : a = 0
  · rw [h]
  · rw [decide_eq_false h, decide_eq_false (fun e => h e.symm)]
theorem frEq_zero (wd ht : Int) (px : ByteArray) : frEq 0 0 wd ht ⟨#[]⟩ px = fr0 wd ht px := by
  unfold frEq fr0
  rw [dec_zero, dec_zero]
  congr 1
  have e : (⟨#[]⟩ : ByteArray).toList = [] := by unfold ByteArray.toList ByteArray.toList.loop; rfl
  rw [e]
  by_cases h : px.toList = []
  · rw [h]
  · rw [decide_eq_false h, decide_eq_false (fun e => h e.symm)]
theorem frEq_self (wd ht : Int) (px : ByteArray) : frEq wd ht wd ht px px = true := by unfold frEq; simp
theorem same_1 (S : List D3) (A B C D wd ht lv fo : Int) (px : ByteArray) : sameC ⟨1, 0, 0, 0, 0, [], 0, 0, ⟨#[]⟩, 0, 0⟩ ⟨1, A, B, C, D, S, wd, ht, px, lv, fo⟩ (noS S) = cmdB ⟨1, A, B, C, D, S, wd, ht, px, lv, fo⟩ := by
  rw [cmd_1 rfl]
  unfold sameC tz bareB
  dsimp only
  rw [eqT_zero, frEq_zero, dec_zero, dec_zero]
  simp [Bool.and_assoc]
theorem same_2 (S : List D3) (A B C D wd ht lv fo : Int) (px : ByteArray) (hr : rightT A B C D = true) : sameC ⟨2, A, B, C, D, [], 0, 0, ⟨#[]⟩, 0, 0⟩ ⟨2, A, B, C, D, S, wd, ht, px, lv, fo⟩ (noS S) = cmdB ⟨2, A, B, C, D, S, wd, ht, px, lv, fo⟩ := by
  rw [cmd_2 rfl]
  unfold sameC bareB
  dsimp only
  rw [eqT_self, frEq_zero, dec_zero, dec_zero, hr]
  simp [Bool.and_assoc]
theorem same_3 (S : List D3) (A B C D wd ht lv fo : Int) (px : ByteArray) (hr : spotsB S = true) : sameC ⟨3, 0, 0, 0, 0, S, 0, 0, ⟨#[]⟩, 0, 0⟩ ⟨3, A, B, C, D, S, wd, ht, px, lv, fo⟩ true = cmdB ⟨3, A, B, C, D, S, wd, ht, px, lv, fo⟩ := by
  rw [cmd_3 rfl]
  unfold sameC tz bareB
  dsimp only
  rw [eqT_zero, frEq_zero, dec_zero, dec_zero, hr]
  simp [Bool.and_assoc]
theorem same_4 (S : List D3) (A B C D wd ht lv fo : Int) (px : ByteArray) (hr : frameB wd ht px = true) (hl : spanB 0 255 lv = true) (hf : spanB 1 40 fo = true) : sameC ⟨4, 0, 0, 0, 0, [], wd, ht, px, lv, fo⟩ ⟨4, A, B, C, D, S, wd, ht, px, lv, fo⟩ (noS S) = cmdB ⟨4, A, B, C, D, S, wd, ht, px, lv, fo⟩ := by
  rw [cmd_4 rfl]
  unfold sameC tz
  dsimp only
  rw [eqT_zero, frEq_self, hr, hl, hf]
  simp
theorem no_2 {S : List D3} {A B C D wd ht lv fo : Int} {px : ByteArray} (h : rightT A B C D = false) : cmdB ⟨2, A, B, C, D, S, wd, ht, px, lv, fo⟩ = false := by rw [cmd_2 rfl]; dsimp only; rw [h]; rfl
theorem no_3 {S : List D3} {A B C D wd ht lv fo : Int} {px : ByteArray} (h : spotsB S = false) : cmdB ⟨3, A, B, C, D, S, wd, ht, px, lv, fo⟩ = false := by rw [cmd_3 rfl]; dsimp only; rw [h]; simp
theorem no_4 {S : List D3} {A B C D wd ht lv fo : Int} {px : ByteArray} (h : frameB wd ht px = false) : cmdB ⟨4, A, B, C, D, S, wd, ht, px, lv, fo⟩ = false := by rw [cmd_4 rfl]; dsimp only; rw [h]; simp
theorem no_4l {S : List D3} {A B C D wd ht lv fo : Int} {px : ByteArray} (h : spanB 0 255 lv = false) : cmdB ⟨4, A, B, C, D, S, wd, ht, px, lv, fo⟩ = false := by rw [cmd_4 rfl]; dsimp only; rw [h]; simp
theorem no_4f {S : List D3} {A B C D wd ht lv fo : Int} {px : ByteArray} (h : spanB 1 40 fo = false) : cmdB ⟨4, A, B, C, D, S, wd, ht, px, lv, fo⟩ = false := by rw [cmd_4 rfl]; dsimp only; rw [h]; simp
set_option maxHeartbeats 4000000 in
set_option maxRecDepth 100000 in
theorem wishOf_1 (S : List D3) (A B C D wd ht lv fo : Int) (px : ByteArray) (a : Option Addr) (c : Nat) (p : Addr) (w : World) (hn : S.length ≤ 1048576) (hc : S.length ≤ c) (hc9 : c ≤ 9223372036854775807) (hS : Dirs w a S S.length) (hE : ErrCmd p w) :
    Calls Tryz.prog 36 #[.agg #[.int .i64 1, .int .i64 A, .int .i64 B, .int .i64 C, .int .i64 D, .slice a S.length c, .int .i64 wd, .int .i64 ht, .string px, .int .i64 lv, .int .i64 fo]] w fun e w' => WishEnd p ⟨1, A, B, C, D, S, wd, ht, px, lv, fo⟩ (.slice a S.length c) e ∧ Below w.heap.size w w' := by
  have B0 := yz (below1 w (.cells #[.int .i64 1, .int .i64 A, .int .i64 B, .int .i64 C, .int .i64 D, .slice a S.length c, .int .i64 wd, .int .i64 ht, .string px, .int .i64 lv, .int .i64 fo] 45))
  have A0 := yz (blk_new w [.int .i64 1, .int .i64 A, .int .i64 B, .int .i64 C, .int .i64 D, .slice a S.length c, .int .i64 wd, .int .i64 ht, .string px, .int .i64 lv, .int .i64 fo] 45)
  obtain ⟨y, hy⟩ : ∃ y, sameC ⟨1, 0, 0, 0, 0, [], 0, 0, ⟨#[]⟩, 0, 0⟩ ⟨1, A, B, C, D, S, wd, ht, px, lv, fo⟩ (noS S) = y := ⟨_, rfl⟩
  have cM : Hid (∀ W : World, Below w.heap.size w W → Calls Tryz.prog 79 #[.agg #[.int .i64 1, .int .i64 0, .int .i64 0, .int .i64 0, .int .i64 0, .slice none 0 0, .int .i64 0, .int .i64 0, .string ⟨#[]⟩, .int .i64 0, .int .i64 0], .agg #[.int .i64 1, .int .i64 A, .int .i64 B, .int .i64 C, .int .i64 D, .slice a S.length c, .int .i64 wd, .int .i64 ht, .string px, .int .i64 lv, .int .i64 fo]] W fun e w' => e = .returned (.bool y) ∧ Below W.heap.size W w') := yz (fun W hW => by
    rw [← hy]
    refine sameCommand_any 1 0 0 0 0 0 0 0 0 1 A B C D wd ht lv fo ⟨#[]⟩ px [] S a none S.length 0 c 0 (noS S) W (fun W2 h2 => ?_)
    by_cases h0 : S.length = 0
    · rw [show noS S = true by unfold noS; simp [h0], h0]
      exact equal_same [] none a 0 0 c W2 (by omega) (.inl rfl) (.inl rfl)
    · rw [show noS S = false by unfold noS; simp [h0]]
      exact equal_len none a 0 S.length 0 c W2 (by omega))
  have HE := yz hE
  have hm : ∀ W : World, (method 441 120 (.agg #[]) "loop.example/g00577/impl.command").run Tryz.prog W = .ok (250, .agg #[]) W := fun _ => by kernel_rfl
  have HY : Hid (cmdB ⟨1, A, B, C, D, S, wd, ht, px, lv, fo⟩ = y) := yz (by rw [← hy]; exact (same_1 S A B C D wd ht lv fo px).symm)
  clear hy hS hE
  go_enter Tryz.func36, Tryz.ntmps36
  go_wp2_with fail
  refine wp_region_held_drew (S := (fun w' => w'.cell? ⟨w.heap.size, 0, none⟩ = some (.int .i64 1) ∧ w'.cell? ⟨w.heap.size, 1, none⟩ = some (.int .i64 A) ∧ w'.cell? ⟨w.heap.size, 2, none⟩ = some (.int .i64 B) ∧ w'.cell? ⟨w.heap.size, 3, none⟩ = some (.int .i64 C) ∧ w'.cell? ⟨w.heap.size, 4, none⟩ = some (.int .i64 D) ∧ w'.cell? ⟨w.heap.size, 5, none⟩ = some (.slice a S.length c) ∧ w'.cell? ⟨w.heap.size, 6, none⟩ = some (.int .i64 wd) ∧ w'.cell? ⟨w.heap.size, 7, none⟩ = some (.int .i64 ht) ∧ w'.cell? ⟨w.heap.size, 8, none⟩ = some (.string px) ∧ w'.cell? ⟨w.heap.size, 9, none⟩ = some (.int .i64 lv) ∧ w'.cell? ⟨w.heap.size, 10, none⟩ = some (.int .i64 fo))) (by kernel_rfl) ?_ (fun hHeld => ?_)
  · exact holdC (w := w) (yx A0)
  refine wpAnyH_take (i := 0) (v := ?_) rfl (by kernel_rfl) (by kernel_rfl) (by kernel_rfl) (fun _ _ _ h => h) (Or.inl ⟨by rfl, ?_⟩) (by assumption) ?_
  rotate_left
  · intro W0 hSw; (try dsimp only at hSw); go_simp <;> with_reducible rfl
  try simp only [Act.put, List.setIfInBounds_toArray, List.set_cons_zero, List.set_cons_succ]
  refine wpAnyH_take (i := 2) (v := ?_) rfl (by kernel_rfl) (by kernel_rfl) (by kernel_rfl) (fun _ _ _ h => h) (Or.inl ⟨by rfl, ?_⟩) (by assumption) ?_
  rotate_left
  · intro W0 hSw; (try dsimp only at hSw); go_simp <;> with_reducible rfl
  try simp only [Act.put, List.setIfInBounds_toArray, List.set_cons_zero, List.set_cons_succ]
  have Bd := yz ((yx B0).drew)
  have Ad := yz ((yx A0).drewn)
  generalize hV : World.drew _ = V at Bd Ad hHeld ⊢
  clear hV
  refine wpAnyH_ready (rs := [1]) (by kernel_rfl) (by simp) ?_
  refine AllReadyH.cons rfl (fun K hK => ?_) AllReadyH.nil
  go_simp
  refine (resetCmd_any _).mono ?_
  rintro e v1 ⟨rfl, hx⟩
  have B1 := yz (below_call (yx Bd) hx)
  have A1 := yz ((yx Ad).kept hx)
  clear hx Bd Ad
  refine hK.out _ _ (holdC (w := w) (yx A1)) (fun hHeld1 => ?_)
  clear hK K hHeld
  refine wpAnyH_ready (rs := [3]) (by kernel_rfl) (by simp) ?_
  refine AllReadyH.cons rfl (fun K hK => ?_) AllReadyH.nil
  go_simp
  refine (yx cM _ (yx B1)).mono ?_
  rintro e v2 ⟨rfl, hx⟩
  have B2 := yz (below_call (yx B1) hx)
  have A2 := yz ((yx A1).kept hx)
  clear hx B1 A1
  refine hK.out _ _ (holdC (w := w) (yx A2)) (fun hHeld2 => ?_)
  clear hK K hHeld1
  refine wpAnyH_ready (rs := [4]) (by kernel_rfl) (by simp) ?_
  refine AllReadyH.cons rfl (fun K hK => ?_) AllReadyH.nil
  cases y
  · have HN : Hid (WishEnd p ⟨1, A, B, C, D, S, wd, ht, px, lv, fo⟩ (.slice a S.length c) (noCmd p)) := yz (by unfold WishEnd; rw [yx HY]; rfl)
    go_simp
    refine (must_no p _ ((yx HE).kept (yx B2))).mono ?_
    rintro e v3 ⟨rfl, hw⟩
    rw [hw]
    clear hw v3 hK
    exact ⟨rfl, yx HN, yx B2⟩
  have HO : Hid (WishEnd p ⟨1, A, B, C, D, S, wd, ht, px, lv, fo⟩ (.slice a S.length c) (.returned (.iface 120 (.agg #[])))) := yz (by unfold WishEnd; rw [yx HY]; rfl)
  go_simp
  refine (must_yes _).mono ?_
  rintro e v3 ⟨rfl, hw⟩
  rw [hw]
  clear hw v3
  refine hK.out _ _ (holdC (w := w) (yx A2)) (fun hHeld3 => ?_)
  clear hK K hHeld2
  refine wpAnyH_done (by kernel_rfl) ?_ _
  clear hHeld3
  go_wp2_with fail
  go_ret
  exact ⟨yx HO, yx B2⟩
set_option maxHeartbeats 4000000 in
set_option maxRecDepth 100000 in
theorem wishOf_2 (S : List D3) (A B C D wd ht lv fo : Int) (px : ByteArray) (a : Option Addr) (c : Nat) (p : Addr) (w : World) (hn : S.length ≤ 1048576) (hc : S.length ≤ c) (hc9 : c ≤ 9223372036854775807) (hS : Dirs w a S S.length) (hE : ErrCmd p w) :
    Calls Tryz.prog 36 #[.agg #[.int .i64 2, .int .i64 A, .int .i64 B, .int .i64 C, .int .i64 D, .slice a S.length c, .int .i64 wd, .int .i64 ht, .string px, .int .i64 lv, .int .i64 fo]] w fun e w' => WishEnd p ⟨2, A, B, C, D, S, wd, ht, px, lv, fo⟩ (.slice a S.length c) e ∧ Below w.heap.size w w' := by
  have B0 := yz (below1 w (.cells #[.int .i64 2, .int .i64 A, .int .i64 B, .int .i64 C, .int .i64 D, .slice a S.length c, .int .i64 wd, .int .i64 ht, .string px, .int .i64 lv, .int .i64 fo] 45))
  have A0 := yz (blk_new w [.int .i64 2, .int .i64 A, .int .i64 B, .int .i64 C, .int .i64 D, .slice a S.length c, .int .i64 wd, .int .i64 ht, .string px, .int .i64 lv, .int .i64 fo] 45)
  obtain ⟨y, hy⟩ : ∃ y, sameC ⟨2, A, B, C, D, [], 0, 0, ⟨#[]⟩, 0, 0⟩ ⟨2, A, B, C, D, S, wd, ht, px, lv, fo⟩ (noS S) = y := ⟨_, rfl⟩
  have cM : Hid (∀ W : World, Below w.heap.size w W → Calls Tryz.prog 79 #[.agg #[.int .i64 2, .int .i64 A, .int .i64 B, .int .i64 C, .int .i64 D, .slice none 0 0, .int .i64 0, .int .i64 0, .string ⟨#[]⟩, .int .i64 0, .int .i64 0], .agg #[.int .i64 2, .int .i64 A, .int .i64 B, .int .i64 C, .int .i64 D, .slice a S.length c, .int .i64 wd, .int .i64 ht, .string px, .int .i64 lv, .int .i64 fo]] W fun e w' => e = .returned (.bool y) ∧ Below W.heap.size W w') := yz (fun W hW => by
    rw [← hy]
    refine sameCommand_any 2 A B C D 0 0 0 0 2 A B C D wd ht lv fo ⟨#[]⟩ px [] S a none S.length 0 c 0 (noS S) W (fun W2 h2 => ?_)
    by_cases h0 : S.length = 0
    · rw [show noS S = true by unfold noS; simp [h0], h0]
      exact equal_same [] none a 0 0 c W2 (by omega) (.inl rfl) (.inl rfl)
    · rw [show noS S = false by unfold noS; simp [h0]]
      exact equal_len none a 0 S.length 0 c W2 (by omega))
  have HE := yz hE
  have hm : ∀ W : World, (method 441 122 (.agg #[.int .i64 A, .int .i64 B, .int .i64 C, .int .i64 D]) "loop.example/g00577/impl.command").run Tryz.prog W = .ok (252, .agg #[.int .i64 A, .int .i64 B, .int .i64 C, .int .i64 D]) W := fun _ => by kernel_rfl
  go_enter Tryz.func36, Tryz.ntmps36
  go_wp2_with fail
  refine (turnRight_any A B C D _).mono ?_
  rintro e u1 ⟨rfl, hx⟩
  have B1 := yz (below_call (yx B0) hx)
  have A1 := yz ((yx A0).kept hx)
  clear hx A0 B0
  cases hr : rightT A B C D
  · skip
    have HN : Hid (WishEnd p ⟨2, A, B, C, D, S, wd, ht, px, lv, fo⟩ (.slice a S.length c) (noCmd p)) := yz (by unfold WishEnd; rw [no_2 hr]; rfl)
    go_wp2_with fail
    refine (must_no p _ ((yx HE).kept (yx B1))).mono ?_
    rintro e v3 ⟨rfl, hw⟩
    rw [hw]
    clear hw v3
    exact ⟨rfl, yx HN, yx B1⟩
  have HY : Hid (cmdB ⟨2, A, B, C, D, S, wd, ht, px, lv, fo⟩ = y) := yz (by rw [← hy]; exact (same_2 S A B C D wd ht lv fo px hr).symm)
  clear hy hS hE hr
  go_wp2_with fail
  refine (must_yes _).mono ?_
  rintro e v3 ⟨rfl, hw⟩
  rw [hw]
  clear hw v3
  obtain ⟨q0, q1, q2, q3, q4, q5, q6, q7, q8, q9, q10⟩ := bcs11 (yx A1)
  go_wp2_with fail
  clear q0 q1 q2 q3 q4 q5 q6 q7 q8 q9 q10
  refine wp_region_held_drew (S := (fun w' => w'.cell? ⟨w.heap.size, 0, none⟩ = some (.int .i64 2) ∧ w'.cell? ⟨w.heap.size, 1, none⟩ = some (.int .i64 A) ∧ w'.cell? ⟨w.heap.size, 2, none⟩ = some (.int .i64 B) ∧ w'.cell? ⟨w.heap.size, 3, none⟩ = some (.int .i64 C) ∧ w'.cell? ⟨w.heap.size, 4, none⟩ = some (.int .i64 D) ∧ w'.cell? ⟨w.heap.size, 5, none⟩ = some (.slice a S.length c) ∧ w'.cell? ⟨w.heap.size, 6, none⟩ = some (.int .i64 wd) ∧ w'.cell? ⟨w.heap.size, 7, none⟩ = some (.int .i64 ht) ∧ w'.cell? ⟨w.heap.size, 8, none⟩ = some (.string px) ∧ w'.cell? ⟨w.heap.size, 9, none⟩ = some (.int .i64 lv) ∧ w'.cell? ⟨w.heap.size, 10, none⟩ = some (.int .i64 fo))) (by kernel_rfl) ?_ (fun hHeld => ?_)
  · exact holdC (w := w) (yx A1)
  refine wpAnyH_take (i := 0) (v := ?_) rfl (by kernel_rfl) (by kernel_rfl) (by kernel_rfl) (fun _ _ _ h => h) (Or.inl ⟨by rfl, ?_⟩) (by assumption) ?_
  rotate_left
  · intro W0 hSw; (try dsimp only at hSw); go_simp <;> with_reducible rfl
  try simp only [Act.put, List.setIfInBounds_toArray, List.set_cons_zero, List.set_cons_succ]
  refine wpAnyH_take (i := 2) (v := ?_) rfl (by kernel_rfl) (by kernel_rfl) (by kernel_rfl) (fun _ _ _ h => h) (Or.inl ⟨by rfl, ?_⟩) (by assumption) ?_
  rotate_left
  · intro W0 hSw; (try dsimp only at hSw); go_simp <;> with_reducible rfl
  try simp only [Act.put, List.setIfInBounds_toArray, List.set_cons_zero, List.set_cons_succ]
  have Bd := yz ((yx B1).drew)
  have Ad := yz ((yx A1).drewn)
  generalize hV : World.drew _ = V at Bd Ad hHeld ⊢
  clear hV
  refine wpAnyH_ready (rs := [1]) (by kernel_rfl) (by simp) ?_
  refine AllReadyH.cons rfl (fun K hK => ?_) AllReadyH.nil
  go_simp
  refine (gyroCmd_any A B C D _).mono ?_
  rintro e v1 ⟨rfl, hx⟩
  have B1 := yz (below_call (yx Bd) hx)
  have A1 := yz ((yx Ad).kept hx)
  clear hx Bd Ad
  refine hK.out _ _ (holdC (w := w) (yx A1)) (fun hHeld1 => ?_)
  clear hK K hHeld
  refine wpAnyH_ready (rs := [3]) (by kernel_rfl) (by simp) ?_
  refine AllReadyH.cons rfl (fun K hK => ?_) AllReadyH.nil
  go_simp
  refine (yx cM _ (yx B1)).mono ?_
  rintro e v2 ⟨rfl, hx⟩
  have B2 := yz (below_call (yx B1) hx)
  have A2 := yz ((yx A1).kept hx)
  clear hx B1 A1
  refine hK.out _ _ (holdC (w := w) (yx A2)) (fun hHeld2 => ?_)
  clear hK K hHeld1
  refine wpAnyH_ready (rs := [4]) (by kernel_rfl) (by simp) ?_
  refine AllReadyH.cons rfl (fun K hK => ?_) AllReadyH.nil
  cases y
  · have HN : Hid (WishEnd p ⟨2, A, B, C, D, S, wd, ht, px, lv, fo⟩ (.slice a S.length c) (noCmd p)) := yz (by unfold WishEnd; rw [yx HY]; rfl)
    go_simp
    refine (must_no p _ ((yx HE).kept (yx B2))).mono ?_
    rintro e v3 ⟨rfl, hw⟩
    rw [hw]
    clear hw v3 hK
    exact ⟨rfl, yx HN, yx B2⟩
  have HO : Hid (WishEnd p ⟨2, A, B, C, D, S, wd, ht, px, lv, fo⟩ (.slice a S.length c) (.returned (.iface 122 (.agg #[.int .i64 A, .int .i64 B, .int .i64 C, .int .i64 D])))) := yz (by unfold WishEnd; rw [yx HY]; rfl)
  go_simp
  refine (must_yes _).mono ?_
  rintro e v3 ⟨rfl, hw⟩
  rw [hw]
  clear hw v3
  refine hK.out _ _ (holdC (w := w) (yx A2)) (fun hHeld3 => ?_)
  clear hK K hHeld2
  refine wpAnyH_done (by kernel_rfl) ?_ _
  clear hHeld3
  go_wp2_with fail
  go_ret
  exact ⟨yx HO, yx B2⟩
set_option maxHeartbeats 4000000 in
set_option maxRecDepth 100000 in
theorem wishOf_3 (S : List D3) (A B C D wd ht lv fo : Int) (px : ByteArray) (a : Option Addr) (c : Nat) (p : Addr) (w : World) (hn : S.length ≤ 1048576) (hc : S.length ≤ c) (hc9 : c ≤ 9223372036854775807) (hS : Dirs w a S S.length) (hE : ErrCmd p w) :
    Calls Tryz.prog 36 #[.agg #[.int .i64 3, .int .i64 A, .int .i64 B, .int .i64 C, .int .i64 D, .slice a S.length c, .int .i64 wd, .int .i64 ht, .string px, .int .i64 lv, .int .i64 fo]] w fun e w' => WishEnd p ⟨3, A, B, C, D, S, wd, ht, px, lv, fo⟩ (.slice a S.length c) e ∧ Below w.heap.size w w' := by
  have B0 := yz (below1 w (.cells #[.int .i64 3, .int .i64 A, .int .i64 B, .int .i64 C, .int .i64 D, .slice a S.length c, .int .i64 wd, .int .i64 ht, .string px, .int .i64 lv, .int .i64 fo] 45))
  have A0 := yz (blk_new w [.int .i64 3, .int .i64 A, .int .i64 B, .int .i64 C, .int .i64 D, .slice a S.length c, .int .i64 wd, .int .i64 ht, .string px, .int .i64 lv, .int .i64 fo] 45)
  obtain ⟨y, hy⟩ : ∃ y, sameC ⟨3, 0, 0, 0, 0, S, 0, 0, ⟨#[]⟩, 0, 0⟩ ⟨3, A, B, C, D, S, wd, ht, px, lv, fo⟩ (true) = y := ⟨_, rfl⟩
  have cM : Hid (∀ W : World, Below w.heap.size w W → Calls Tryz.prog 79 #[.agg #[.int .i64 3, .int .i64 0, .int .i64 0, .int .i64 0, .int .i64 0, .slice a S.length c, .int .i64 0, .int .i64 0, .string ⟨#[]⟩, .int .i64 0, .int .i64 0], .agg #[.int .i64 3, .int .i64 A, .int .i64 B, .int .i64 C, .int .i64 D, .slice a S.length c, .int .i64 wd, .int .i64 ht, .string px, .int .i64 lv, .int .i64 fo]] W fun e w' => e = .returned (.bool y) ∧ Below W.heap.size W w') := yz (fun W hW => by
    rw [← hy]
    refine sameCommand_any 3 0 0 0 0 0 0 0 0 3 A B C D wd ht lv fo ⟨#[]⟩ px S S a a S.length S.length c c (true) W (fun W2 h2 => ?_)
    exact equal_same S a a S.length c c W2 hn ((hS.kept hW).kept h2) ((hS.kept hW).kept h2))
  have HE := yz hE
  have hm : ∀ W : World, (method 441 124 (.agg #[.slice a S.length c]) "loop.example/g00577/impl.command").run Tryz.prog W = .ok (254, .agg #[.slice a S.length c]) W := fun _ => by kernel_rfl
  have cP := yz (spotsRight_any S a c _ hn hc hc9 (hS.kept (yx B0)))
  go_enter Tryz.func36, Tryz.ntmps36
  go_wp2_with fail
  refine (yx cP).mono ?_
  rintro e u1 ⟨rfl, hx⟩
  have B1 := yz (below_call (yx B0) hx)
  have A1 := yz ((yx A0).kept hx)
  clear hx A0 B0
  cases hr : spotsB S
  · skip
    have HN : Hid (WishEnd p ⟨3, A, B, C, D, S, wd, ht, px, lv, fo⟩ (.slice a S.length c) (noCmd p)) := yz (by unfold WishEnd; rw [no_3 hr]; rfl)
    go_wp2_with fail
    refine (must_no p _ ((yx HE).kept (yx B1))).mono ?_
    rintro e v3 ⟨rfl, hw⟩
    rw [hw]
    clear hw v3
    exact ⟨rfl, yx HN, yx B1⟩
  have HY : Hid (cmdB ⟨3, A, B, C, D, S, wd, ht, px, lv, fo⟩ = y) := yz (by rw [← hy]; exact (same_3 S A B C D wd ht lv fo px hr).symm)
  clear hy hS hE hr
  go_wp2_with fail
  refine (must_yes _).mono ?_
  rintro e v3 ⟨rfl, hw⟩
  rw [hw]
  clear hw v3
  obtain ⟨q0, q1, q2, q3, q4, q5, q6, q7, q8, q9, q10⟩ := bcs11 (yx A1)
  go_wp2_with fail
  clear q0 q1 q2 q3 q4 q5 q6 q7 q8 q9 q10
  refine wp_region_held_drew (S := (fun w' => w'.cell? ⟨w.heap.size, 0, none⟩ = some (.int .i64 3) ∧ w'.cell? ⟨w.heap.size, 1, none⟩ = some (.int .i64 A) ∧ w'.cell? ⟨w.heap.size, 2, none⟩ = some (.int .i64 B) ∧ w'.cell? ⟨w.heap.size, 3, none⟩ = some (.int .i64 C) ∧ w'.cell? ⟨w.heap.size, 4, none⟩ = some (.int .i64 D) ∧ w'.cell? ⟨w.heap.size, 5, none⟩ = some (.slice a S.length c) ∧ w'.cell? ⟨w.heap.size, 6, none⟩ = some (.int .i64 wd) ∧ w'.cell? ⟨w.heap.size, 7, none⟩ = some (.int .i64 ht) ∧ w'.cell? ⟨w.heap.size, 8, none⟩ = some (.string px) ∧ w'.cell? ⟨w.heap.size, 9, none⟩ = some (.int .i64 lv) ∧ w'.cell? ⟨w.heap.size, 10, none⟩ = some (.int .i64 fo))) (by kernel_rfl) ?_ (fun hHeld => ?_)
  · exact holdC (w := w) (yx A1)
  refine wpAnyH_take (i := 0) (v := ?_) rfl (by kernel_rfl) (by kernel_rfl) (by kernel_rfl) (fun _ _ _ h => h) (Or.inl ⟨by rfl, ?_⟩) (by assumption) ?_
  rotate_left
  · intro W0 hSw; (try dsimp only at hSw); go_simp <;> with_reducible rfl
  try simp only [Act.put, List.setIfInBounds_toArray, List.set_cons_zero, List.set_cons_succ]
  refine wpAnyH_take (i := 2) (v := ?_) rfl (by kernel_rfl) (by kernel_rfl) (by kernel_rfl) (fun _ _ _ h => h) (Or.inl ⟨by rfl, ?_⟩) (by assumption) ?_
  rotate_left
  · intro W0 hSw; (try dsimp only at hSw); go_simp <;> with_reducible rfl
  try simp only [Act.put, List.setIfInBounds_toArray, List.set_cons_zero, List.set_cons_succ]
  have Bd := yz ((yx B1).drew)
  have Ad := yz ((yx A1).drewn)
  generalize hV : World.drew _ = V at Bd Ad hHeld ⊢
  clear hV
  refine wpAnyH_ready (rs := [1]) (by kernel_rfl) (by simp) ?_
  refine AllReadyH.cons rfl (fun K hK => ?_) AllReadyH.nil
  go_simp
  refine (lookCmd_any a S.length c _).mono ?_
  rintro e v1 ⟨rfl, hx⟩
  have B1 := yz (below_call (yx Bd) hx)
  have A1 := yz ((yx Ad).kept hx)
  clear hx Bd Ad
  refine hK.out _ _ (holdC (w := w) (yx A1)) (fun hHeld1 => ?_)
  clear hK K hHeld
  refine wpAnyH_ready (rs := [3]) (by kernel_rfl) (by simp) ?_
  refine AllReadyH.cons rfl (fun K hK => ?_) AllReadyH.nil
  go_simp
  refine (yx cM _ (yx B1)).mono ?_
  rintro e v2 ⟨rfl, hx⟩
  have B2 := yz (below_call (yx B1) hx)
  have A2 := yz ((yx A1).kept hx)
  clear hx B1 A1
  refine hK.out _ _ (holdC (w := w) (yx A2)) (fun hHeld2 => ?_)
  clear hK K hHeld1
  refine wpAnyH_ready (rs := [4]) (by kernel_rfl) (by simp) ?_
  refine AllReadyH.cons rfl (fun K hK => ?_) AllReadyH.nil
  cases y
  · have HN : Hid (WishEnd p ⟨3, A, B, C, D, S, wd, ht, px, lv, fo⟩ (.slice a S.length c) (noCmd p)) := yz (by unfold WishEnd; rw [yx HY]; rfl)
    go_simp
    refine (must_no p _ ((yx HE).kept (yx B2))).mono ?_
    rintro e v3 ⟨rfl, hw⟩
    rw [hw]
    clear hw v3 hK
    exact ⟨rfl, yx HN, yx B2⟩
  have HO : Hid (WishEnd p ⟨3, A, B, C, D, S, wd, ht, px, lv, fo⟩ (.slice a S.length c) (.returned (.iface 124 (.agg #[.slice a S.length c])))) := yz (by unfold WishEnd; rw [yx HY]; rfl)
  go_simp
  refine (must_yes _).mono ?_
  rintro e v3 ⟨rfl, hw⟩
  rw [hw]
  clear hw v3
  refine hK.out _ _ (holdC (w := w) (yx A2)) (fun hHeld3 => ?_)
  clear hK K hHeld2
  refine wpAnyH_done (by kernel_rfl) ?_ _
  clear hHeld3
  go_wp2_with fail
  go_ret
  exact ⟨yx HO, yx B2⟩
set_option maxHeartbeats 4000000 in
set_option maxRecDepth 100000 in
theorem wishOf_4 (S : List D3) (A B C D wd ht lv fo : Int) (px : ByteArray) (a : Option Addr) (c : Nat) (p : Addr) (w : World) (hn : S.length ≤ 1048576) (hc : S.length ≤ c) (hc9 : c ≤ 9223372036854775807) (hS : Dirs w a S S.length) (hE : ErrCmd p w) :
    Calls Tryz.prog 36 #[.agg #[.int .i64 4, .int .i64 A, .int .i64 B, .int .i64 C, .int .i64 D, .slice a S.length c, .int .i64 wd, .int .i64 ht, .string px, .int .i64 lv, .int .i64 fo]] w fun e w' => WishEnd p ⟨4, A, B, C, D, S, wd, ht, px, lv, fo⟩ (.slice a S.length c) e ∧ Below w.heap.size w w' := by
  have B0 := yz (below1 w (.cells #[.int .i64 4, .int .i64 A, .int .i64 B, .int .i64 C, .int .i64 D, .slice a S.length c, .int .i64 wd, .int .i64 ht, .string px, .int .i64 lv, .int .i64 fo] 45))
  have A0 := yz (blk_new w [.int .i64 4, .int .i64 A, .int .i64 B, .int .i64 C, .int .i64 D, .slice a S.length c, .int .i64 wd, .int .i64 ht, .string px, .int .i64 lv, .int .i64 fo] 45)
  obtain ⟨y, hy⟩ : ∃ y, sameC ⟨4, 0, 0, 0, 0, [], wd, ht, px, lv, fo⟩ ⟨4, A, B, C, D, S, wd, ht, px, lv, fo⟩ (noS S) = y := ⟨_, rfl⟩
  have cM : Hid (∀ W : World, Below w.heap.size w W → Calls Tryz.prog 79 #[.agg #[.int .i64 4, .int .i64 0, .int .i64 0, .int .i64 0, .int .i64 0, .slice none 0 0, .int .i64 wd, .int .i64 ht, .string px, .int .i64 lv, .int .i64 fo], .agg #[.int .i64 4, .int .i64 A, .int .i64 B, .int .i64 C, .int .i64 D, .slice a S.length c, .int .i64 wd, .int .i64 ht, .string px, .int .i64 lv, .int .i64 fo]] W fun e w' => e = .returned (.bool y) ∧ Below W.heap.size W w') := yz (fun W hW => by
    rw [← hy]
    refine sameCommand_any 4 0 0 0 0 wd ht lv fo 4 A B C D wd ht lv fo px px [] S a none S.length 0 c 0 (noS S) W (fun W2 h2 => ?_)
    by_cases h0 : S.length = 0
    · rw [show noS S = true by unfold noS; simp [h0], h0]
      exact equal_same [] none a 0 0 c W2 (by omega) (.inl rfl) (.inl rfl)
    · rw [show noS S = false by unfold noS; simp [h0]]
      exact equal_len none a 0 S.length 0 c W2 (by omega))
  have HE := yz hE
  have hm : ∀ W : World, (method 441 126 (.agg #[.int .i64 wd, .int .i64 ht, .string px, .int .i64 lv, .int .i64 fo]) "loop.example/g00577/impl.command").run Tryz.prog W = .ok (256, .agg #[.int .i64 wd, .int .i64 ht, .string px, .int .i64 lv, .int .i64 fo]) W := fun _ => by kernel_rfl
  go_enter Tryz.func36, Tryz.ntmps36
  go_wp2_with fail
  refine (frameRight_any wd ht px _).mono ?_
  rintro e u1 ⟨rfl, hx⟩
  have B1 := yz (below_call (yx B0) hx)
  have A1 := yz ((yx A0).kept hx)
  clear hx A0 B0
  cases hr : frameB wd ht px
  · skip
    have HN : Hid (WishEnd p ⟨4, A, B, C, D, S, wd, ht, px, lv, fo⟩ (.slice a S.length c) (noCmd p)) := yz (by unfold WishEnd; rw [no_4 hr]; rfl)
    go_wp2_with fail
    refine (must_no p _ ((yx HE).kept (yx B1))).mono ?_
    rintro e v3 ⟨rfl, hw⟩
    rw [hw]
    clear hw v3
    exact ⟨rfl, yx HN, yx B1⟩
  obtain ⟨q0, q1, q2, q3, q4, q5, q6, q7, q8, q9, q10⟩ := bcs11 (yx A1)
  go_wp2_with fail
  refine (isLevelC lv _).mono ?_
  rintro e v3 ⟨rfl, hw⟩
  rw [hw]
  clear hw v3
  cases hl : spanB 0 255 lv
  · skip
    have HN : Hid (WishEnd p ⟨4, A, B, C, D, S, wd, ht, px, lv, fo⟩ (.slice a S.length c) (noCmd p)) := yz (by unfold WishEnd; rw [no_4l hl]; rfl)
    go_wp2_with fail
    refine (must_no p _ ((yx HE).kept (yx B1))).mono ?_
    rintro e v3 ⟨rfl, hw⟩
    rw [hw]
    clear hw v3
    exact ⟨rfl, yx HN, yx B1⟩
  go_wp2_with fail
  refine (isFocalC fo _).mono ?_
  rintro e v3 ⟨rfl, hw⟩
  rw [hw]
  clear hw v3
  cases hf : spanB 1 40 fo
  · skip
    have HN : Hid (WishEnd p ⟨4, A, B, C, D, S, wd, ht, px, lv, fo⟩ (.slice a S.length c) (noCmd p)) := yz (by unfold WishEnd; rw [no_4f hf]; rfl)
    go_wp2_with fail
    refine (must_no p _ ((yx HE).kept (yx B1))).mono ?_
    rintro e v3 ⟨rfl, hw⟩
    rw [hw]
    clear hw v3
    exact ⟨rfl, yx HN, yx B1⟩
  clear q0 q1 q2 q3 q4 q5 q6 q7 q8 q9 q10
  have HY : Hid (cmdB ⟨4, A, B, C, D, S, wd, ht, px, lv, fo⟩ = y) := yz (by rw [← hy]; exact (same_4 S A B C D wd ht lv fo px hr hl hf).symm)
  clear hy hS hE hr hl hf
  go_wp2_with fail
  refine (must_yes _).mono ?_
  rintro e v3 ⟨rfl, hw⟩
  rw [hw]
  clear hw v3
  obtain ⟨q0, q1, q2, q3, q4, q5, q6, q7, q8, q9, q10⟩ := bcs11 (yx A1)
  go_wp2_with fail
  clear q0 q1 q2 q3 q4 q5 q6 q7 q8 q9 q10
  refine wp_region_held_drew (S := (fun w' => w'.cell? ⟨w.heap.size, 0, none⟩ = some (.int .i64 4) ∧ w'.cell? ⟨w.heap.size, 1, none⟩ = some (.int .i64 A) ∧ w'.cell? ⟨w.heap.size, 2, none⟩ = some (.int .i64 B) ∧ w'.cell? ⟨w.heap.size, 3, none⟩ = some (.int .i64 C) ∧ w'.cell? ⟨w.heap.size, 4, none⟩ = some (.int .i64 D) ∧ w'.cell? ⟨w.heap.size, 5, none⟩ = some (.slice a S.length c) ∧ w'.cell? ⟨w.heap.size, 6, none⟩ = some (.int .i64 wd) ∧ w'.cell? ⟨w.heap.size, 7, none⟩ = some (.int .i64 ht) ∧ w'.cell? ⟨w.heap.size, 8, none⟩ = some (.string px) ∧ w'.cell? ⟨w.heap.size, 9, none⟩ = some (.int .i64 lv) ∧ w'.cell? ⟨w.heap.size, 10, none⟩ = some (.int .i64 fo))) (by kernel_rfl) ?_ (fun hHeld => ?_)
  · exact holdC (w := w) (yx A1)
  refine wpAnyH_take (i := 0) (v := ?_) rfl (by kernel_rfl) (by kernel_rfl) (by kernel_rfl) (fun _ _ _ h => h) (Or.inl ⟨by rfl, ?_⟩) (by assumption) ?_
  rotate_left
  · intro W0 hSw; (try dsimp only at hSw); go_simp <;> with_reducible rfl
  try simp only [Act.put, List.setIfInBounds_toArray, List.set_cons_zero, List.set_cons_succ]
  refine wpAnyH_take (i := 2) (v := ?_) rfl (by kernel_rfl) (by kernel_rfl) (by kernel_rfl) (fun _ _ _ h => h) (Or.inl ⟨by rfl, ?_⟩) (by assumption) ?_
  rotate_left
  · intro W0 hSw; (try dsimp only at hSw); go_simp <;> with_reducible rfl
  try simp only [Act.put, List.setIfInBounds_toArray, List.set_cons_zero, List.set_cons_succ]
  have Bd := yz ((yx B1).drew)
  have Ad := yz ((yx A1).drewn)
  generalize hV : World.drew _ = V at Bd Ad hHeld ⊢
  clear hV
  refine wpAnyH_ready (rs := [1]) (by kernel_rfl) (by simp) ?_
  refine AllReadyH.cons rfl (fun K hK => ?_) AllReadyH.nil
  go_simp
  refine (frameCmd_any wd ht lv fo px _).mono ?_
  rintro e v1 ⟨rfl, hx⟩
  have B1 := yz (below_call (yx Bd) hx)
  have A1 := yz ((yx Ad).kept hx)
  clear hx Bd Ad
  refine hK.out _ _ (holdC (w := w) (yx A1)) (fun hHeld1 => ?_)
  clear hK K hHeld
  refine wpAnyH_ready (rs := [3]) (by kernel_rfl) (by simp) ?_
  refine AllReadyH.cons rfl (fun K hK => ?_) AllReadyH.nil
  go_simp
  refine (yx cM _ (yx B1)).mono ?_
  rintro e v2 ⟨rfl, hx⟩
  have B2 := yz (below_call (yx B1) hx)
  have A2 := yz ((yx A1).kept hx)
  clear hx B1 A1
  refine hK.out _ _ (holdC (w := w) (yx A2)) (fun hHeld2 => ?_)
  clear hK K hHeld1
  refine wpAnyH_ready (rs := [4]) (by kernel_rfl) (by simp) ?_
  refine AllReadyH.cons rfl (fun K hK => ?_) AllReadyH.nil
  cases y
  · have HN : Hid (WishEnd p ⟨4, A, B, C, D, S, wd, ht, px, lv, fo⟩ (.slice a S.length c) (noCmd p)) := yz (by unfold WishEnd; rw [yx HY]; rfl)
    go_simp
    refine (must_no p _ ((yx HE).kept (yx B2))).mono ?_
    rintro e v3 ⟨rfl, hw⟩
    rw [hw]
    clear hw v3 hK
    exact ⟨rfl, yx HN, yx B2⟩
  have HO : Hid (WishEnd p ⟨4, A, B, C, D, S, wd, ht, px, lv, fo⟩ (.slice a S.length c) (.returned (.iface 126 (.agg #[.int .i64 wd, .int .i64 ht, .string px, .int .i64 lv, .int .i64 fo])))) := yz (by unfold WishEnd; rw [yx HY]; rfl)
  go_simp
  refine (must_yes _).mono ?_
  rintro e v3 ⟨rfl, hw⟩
  rw [hw]
  clear hw v3
  refine hK.out _ _ (holdC (w := w) (yx A2)) (fun hHeld3 => ?_)
  clear hK K hHeld2
  refine wpAnyH_done (by kernel_rfl) ?_ _
  clear hHeld3
  go_wp2_with fail
  go_ret
  exact ⟨yx HO, yx B2⟩
set_option maxRecDepth 100000 in
theorem wishOf_n (S : List D3) (kind A B C D wd ht lv fo : Int) (px : ByteArray) (a : Option Addr) (c : Nat) (p : Addr) (w : World) (h1 : kind ≠ 1) (h2 : kind ≠ 2) (h3 : kind ≠ 3) (h4 : kind ≠ 4) (hE : ErrCmd p w) :
    Calls Tryz.prog 36 #[.agg #[.int .i64 kind, .int .i64 A, .int .i64 B, .int .i64 C, .int .i64 D, .slice a S.length c, .int .i64 wd, .int .i64 ht, .string px, .int .i64 lv, .int .i64 fo]] w fun e w' => WishEnd p ⟨kind, A, B, C, D, S, wd, ht, px, lv, fo⟩ (.slice a S.length c) e ∧ Below w.heap.size w w' := by
  have B0 := yz (below1 w (.cells #[.int .i64 kind, .int .i64 A, .int .i64 B, .int .i64 C, .int .i64 D, .slice a S.length c, .int .i64 wd, .int .i64 ht, .string px, .int .i64 lv, .int .i64 fo] 45))
  have E0 := hE.kept (yx B0)
  unfold ErrCmd at E0
  have HN : Hid (WishEnd p ⟨kind, A, B, C, D, S, wd, ht, px, lv, fo⟩ (.slice a S.length c) (noCmd p)) := yz (by unfold WishEnd; rw [cmd_n h1 h2 h3 h4]; rfl)
  clear hE
  go_enter Tryz.func36, Tryz.ntmps36
  go_wp2_with fail
  exact ⟨rfl, yx HN, yx B0⟩
theorem wishOf_any (S : List D3) (kind A B C D wd ht lv fo : Int) (px : ByteArray) (a : Option Addr) (c : Nat) (p : Addr) (w : World) (hn : S.length ≤ 1048576) (hc : S.length ≤ c) (hc9 : c ≤ 9223372036854775807) (hS : Dirs w a S S.length) (hE : ErrCmd p w) :
    Calls Tryz.prog 36 #[.agg #[.int .i64 kind, .int .i64 A, .int .i64 B, .int .i64 C, .int .i64 D, .slice a S.length c, .int .i64 wd, .int .i64 ht, .string px, .int .i64 lv, .int .i64 fo]] w fun e w' => WishEnd p ⟨kind, A, B, C, D, S, wd, ht, px, lv, fo⟩ (.slice a S.length c) e ∧ Below w.heap.size w w' := by
  by_cases h1 : kind = 1
  · subst h1; exact wishOf_1 S A B C D wd ht lv fo px a c p w hn hc hc9 hS hE
  by_cases h2 : kind = 2
  · subst h2; exact wishOf_2 S A B C D wd ht lv fo px a c p w hn hc hc9 hS hE
  by_cases h3 : kind = 3
  · subst h3; exact wishOf_3 S A B C D wd ht lv fo px a c p w hn hc hc9 hS hE
  by_cases h4 : kind = 4
  · subst h4; exact wishOf_4 S A B C D wd ht lv fo px a c p w hn hc hc9 hS hE
  exact wishOf_n S kind A B C D wd ht lv fo px a c p w h1 h2 h3 h4 hE
theorem frEq_zero' (wd ht : Int) (px : ByteArray) : frEq wd ht 0 0 px ⟨#[]⟩ = fr0 wd ht px := by
  unfold frEq fr0
  have e : (⟨#[]⟩ : ByteArray).toList = [] := by unfold ByteArray.toList ByteArray.toList.loop; rfl
  rw [e]
theorem noS_int (S : List D3) : ((S.length : Int) == 0) = noS S := by
  unfold noS
  by_cases h : S.length = 0
  · rw [h]; rfl
  · rw [decide_eq_false h]
    simpa using h
theorem lv_dec (x : Int) : (x == 0) = decide (x = 0) := rfl
set_option maxHeartbeats 4000000 in
set_option maxRecDepth 100000 in
theorem specCR_1 (S : List D3) (A B C D wd ht lv fo : Int) (px : ByteArray) (a : Option Addr) (n c : Nat) (hn : S.length = n) (w : World) :
    Calls Tryz.prog 27 #[.agg #[.int .i64 1, .int .i64 A, .int .i64 B, .int .i64 C, .int .i64 D, .slice a n c, .int .i64 wd, .int .i64 ht, .string px, .int .i64 lv, .int .i64 fo]] w fun e w' => e = .returned (.bool (cmdB ⟨1, A, B, C, D, S, wd, ht, px, lv, fo⟩)) ∧ Below w.heap.size w w' := by
  have B0 := yz (below3 w (.cells #[.int .i64 1, .int .i64 A, .int .i64 B, .int .i64 C, .int .i64 D, .slice a n c, .int .i64 wd, .int .i64 ht, .string px, .int .i64 lv, .int .i64 fo] 45) (.cells #[.int .i64 0, .int .i64 0, .int .i64 0, .int .i64 0] 35) (.cells #[.int .i64 0, .int .i64 0, .string ⟨#[]⟩] 43))
  have A0 := yz (((blk_new w [.int .i64 1, .int .i64 A, .int .i64 B, .int .i64 C, .int .i64 D, .slice a n c, .int .i64 wd, .int .i64 ht, .string px, .int .i64 lv, .int .i64 fo] 45).alloc (.cells #[.int .i64 0, .int .i64 0, .int .i64 0, .int .i64 0] 35)).alloc (.cells #[.int .i64 0, .int .i64 0, .string ⟨#[]⟩] 43))
  obtain ⟨y1, e1⟩ : ∃ y, frEq wd ht 0 0 px ⟨#[]⟩ = y := ⟨_, rfl⟩
  obtain ⟨y2, e2⟩ : ∃ y, (lv == 0) = y := ⟨_, rfl⟩
  obtain ⟨y3, e3⟩ : ∃ y, (fo == 0) = y := ⟨_, rfl⟩
  obtain ⟨y4, e4⟩ : ∃ y, eqT A B C D 0 0 0 0 = y := ⟨_, rfl⟩
  obtain ⟨y5, e5⟩ : ∃ y, ((n : Int) == 0) = y := ⟨_, rfl⟩
  have HO : Hid (cmdB ⟨1, A, B, C, D, S, wd, ht, px, lv, fo⟩ = (y4 && y5 && (y1 && y2 && y3))) := yz (by
    rw [cmd_1 rfl, ← e1, ← e2, ← e3, ← e4, ← e5, ← hn]
    unfold tz bareB
    dsimp only
    rw [frEq_zero', noS_int, lv_dec, lv_dec])
  have x1 : ∀ W : World, (binOp .eql 43 (.agg #[.int .i64 wd, .int .i64 ht, .string px]) (.agg #[.int .i64 0, .int .i64 0, .string ⟨#[]⟩])).run Tryz.prog W = .ok (.bool y1) W := fun W => by rw [eql_frame, e1]
  have x4 : ∀ W : World, (binOp .eql 35 (.agg #[.int .i64 A, .int .i64 B, .int .i64 C, .int .i64 D]) (.agg #[.int .i64 0, .int .i64 0, .int .i64 0, .int .i64 0])).run Tryz.prog W = .ok (.bool y4) W := fun W => by rw [eql_turn, e4]
  clear e1 e4 hn
  go_enter Tryz.func27, Tryz.ntmps27
  go_wp2_with fail
  all_goals (go_ret; exact ⟨by rw [yx HO]; simp [*], yx B0⟩)
set_option maxHeartbeats 4000000 in
set_option maxRecDepth 100000 in
theorem specCR_2 (S : List D3) (A B C D wd ht lv fo : Int) (px : ByteArray) (a : Option Addr) (n c : Nat) (hn : S.length = n) (w : World) :
    Calls Tryz.prog 27 #[.agg #[.int .i64 2, .int .i64 A, .int .i64 B, .int .i64 C, .int .i64 D, .slice a n c, .int .i64 wd, .int .i64 ht, .string px, .int .i64 lv, .int .i64 fo]] w fun e w' => e = .returned (.bool (cmdB ⟨2, A, B, C, D, S, wd, ht, px, lv, fo⟩)) ∧ Below w.heap.size w w' := by
  have B0 := yz (below3 w (.cells #[.int .i64 2, .int .i64 A, .int .i64 B, .int .i64 C, .int .i64 D, .slice a n c, .int .i64 wd, .int .i64 ht, .string px, .int .i64 lv, .int .i64 fo] 45) (.cells #[.int .i64 0, .int .i64 0, .int .i64 0, .int .i64 0] 35) (.cells #[.int .i64 0, .int .i64 0, .string ⟨#[]⟩] 43))
  have A0 := yz (((blk_new w [.int .i64 2, .int .i64 A, .int .i64 B, .int .i64 C, .int .i64 D, .slice a n c, .int .i64 wd, .int .i64 ht, .string px, .int .i64 lv, .int .i64 fo] 45).alloc (.cells #[.int .i64 0, .int .i64 0, .int .i64 0, .int .i64 0] 35)).alloc (.cells #[.int .i64 0, .int .i64 0, .string ⟨#[]⟩] 43))
  obtain ⟨y1, e1⟩ : ∃ y, frEq wd ht 0 0 px ⟨#[]⟩ = y := ⟨_, rfl⟩
  obtain ⟨y2, e2⟩ : ∃ y, (lv == 0) = y := ⟨_, rfl⟩
  obtain ⟨y3, e3⟩ : ∃ y, (fo == 0) = y := ⟨_, rfl⟩
  obtain ⟨y4, e4⟩ : ∃ y, eqT A B C D 0 0 0 0 = y := ⟨_, rfl⟩
  obtain ⟨y5, e5⟩ : ∃ y, ((n : Int) == 0) = y := ⟨_, rfl⟩
  have HO : Hid (cmdB ⟨2, A, B, C, D, S, wd, ht, px, lv, fo⟩ = (rightT A B C D && y5 && (y1 && y2 && y3))) := yz (by
    rw [cmd_2 rfl]
    simp only [← e1, ← e2, ← e3, ← e4, ← e5, ← hn]
    unfold bareB
    dsimp only
    rw [frEq_zero', noS_int, lv_dec, lv_dec])
  have x1 : ∀ W : World, (binOp .eql 43 (.agg #[.int .i64 wd, .int .i64 ht, .string px]) (.agg #[.int .i64 0, .int .i64 0, .string ⟨#[]⟩])).run Tryz.prog W = .ok (.bool y1) W := fun W => by rw [eql_frame, e1]
  have x4 : ∀ W : World, (binOp .eql 35 (.agg #[.int .i64 A, .int .i64 B, .int .i64 C, .int .i64 D]) (.agg #[.int .i64 0, .int .i64 0, .int .i64 0, .int .i64 0])).run Tryz.prog W = .ok (.bool y4) W := fun W => by rw [eql_turn, e4]
  clear e1 e4 hn
  go_enter Tryz.func27, Tryz.ntmps27
  go_wp2_with fail
  all_goals
    refine (specTRight_any A B C D _).mono ?_
    rintro e w1 ⟨rfl, hx⟩
    have A1 := yz ((yx A0).kept hx)
    have B1 := yz (below_call (yx B0) hx)
    clear hx A0 B0
    obtain ⟨q0, q1, q2, q3, q4, q5, q6, q7, q8, q9, q10⟩ := bcs11 (yx A1)
    cases hr : rightT A B C D
    all_goals
      rw [hr] at HO
      go_wp2_with fail
      all_goals (go_ret; exact ⟨by rw [yx HO]; simp [*], yx B1⟩)
set_option maxHeartbeats 4000000 in
set_option maxRecDepth 100000 in
theorem specCR_3 (S : List D3) (A B C D wd ht lv fo : Int) (px : ByteArray) (a : Option Addr) (n c : Nat) (hn : S.length = n) (w : World) (hl : n ≤ 1048576) (hS : Dirs w a S n) :
    Calls Tryz.prog 27 #[.agg #[.int .i64 3, .int .i64 A, .int .i64 B, .int .i64 C, .int .i64 D, .slice a n c, .int .i64 wd, .int .i64 ht, .string px, .int .i64 lv, .int .i64 fo]] w fun e w' => e = .returned (.bool (cmdB ⟨3, A, B, C, D, S, wd, ht, px, lv, fo⟩)) ∧ Below w.heap.size w w' := by
  have B0 := yz (below3 w (.cells #[.int .i64 3, .int .i64 A, .int .i64 B, .int .i64 C, .int .i64 D, .slice a n c, .int .i64 wd, .int .i64 ht, .string px, .int .i64 lv, .int .i64 fo] 45) (.cells #[.int .i64 0, .int .i64 0, .int .i64 0, .int .i64 0] 35) (.cells #[.int .i64 0, .int .i64 0, .string ⟨#[]⟩] 43))
  have A0 := yz (((blk_new w [.int .i64 3, .int .i64 A, .int .i64 B, .int .i64 C, .int .i64 D, .slice a n c, .int .i64 wd, .int .i64 ht, .string px, .int .i64 lv, .int .i64 fo] 45).alloc (.cells #[.int .i64 0, .int .i64 0, .int .i64 0, .int .i64 0] 35)).alloc (.cells #[.int .i64 0, .int .i64 0, .string ⟨#[]⟩] 43))
  obtain ⟨y1, e1⟩ : ∃ y, frEq wd ht 0 0 px ⟨#[]⟩ = y := ⟨_, rfl⟩
  obtain ⟨y2, e2⟩ : ∃ y, (lv == 0) = y := ⟨_, rfl⟩
  obtain ⟨y3, e3⟩ : ∃ y, (fo == 0) = y := ⟨_, rfl⟩
  obtain ⟨y4, e4⟩ : ∃ y, eqT A B C D 0 0 0 0 = y := ⟨_, rfl⟩
  obtain ⟨y5, e5⟩ : ∃ y, ((n : Int) == 0) = y := ⟨_, rfl⟩
  have HO : Hid (cmdB ⟨3, A, B, C, D, S, wd, ht, px, lv, fo⟩ = (y4 && spotsB S && (y1 && y2 && y3))) := yz (by
    rw [cmd_3 rfl]
    simp only [← e1, ← e2, ← e3, ← e4, ← e5, ← hn]
    unfold tz bareB
    dsimp only
    rw [frEq_zero', lv_dec, lv_dec])
  have x1 : ∀ W : World, (binOp .eql 43 (.agg #[.int .i64 wd, .int .i64 ht, .string px]) (.agg #[.int .i64 0, .int .i64 0, .string ⟨#[]⟩])).run Tryz.prog W = .ok (.bool y1) W := fun W => by rw [eql_frame, e1]
  have x4 : ∀ W : World, (binOp .eql 35 (.agg #[.int .i64 A, .int .i64 B, .int .i64 C, .int .i64 D]) (.agg #[.int .i64 0, .int .i64 0, .int .i64 0, .int .i64 0])).run Tryz.prog W = .ok (.bool y4) W := fun W => by rw [eql_turn, e4]
  have cP : Hid (∀ W : World, Below w.heap.size w W → Calls Tryz.prog 60 #[.slice a n c] W fun e w' => e = .returned (.bool (spotsB S)) ∧ Below W.heap.size W w') := yz (fun W hW => by subst hn; exact specSpotsRight_any S a c W hl (hS.kept hW))
  clear e1 e4 hn hS
  cases y4
  · skip
    go_enter Tryz.func27, Tryz.ntmps27
    go_wp2_with fail
    all_goals (go_ret; exact ⟨by rw [yx HO]; simp [*], yx B0⟩)
  go_enter Tryz.func27, Tryz.ntmps27
  go_wp2_with fail
  all_goals
    refine (yx cP _ (yx B0)).mono ?_
    rintro e w1 ⟨rfl, hx⟩
    have A1 := yz ((yx A0).kept hx)
    have B1 := yz (below_call (yx B0) hx)
    clear hx A0 B0
    cases hr : spotsB S
    all_goals
      rw [hr] at HO
      go_wp2_with fail
      all_goals (go_ret; exact ⟨by rw [yx HO]; simp [*], yx B1⟩)
set_option maxHeartbeats 4000000 in
set_option maxRecDepth 100000 in
theorem specCR_4 (S : List D3) (A B C D wd ht lv fo : Int) (px : ByteArray) (a : Option Addr) (n c : Nat) (hn : S.length = n) (w : World) :
    Calls Tryz.prog 27 #[.agg #[.int .i64 4, .int .i64 A, .int .i64 B, .int .i64 C, .int .i64 D, .slice a n c, .int .i64 wd, .int .i64 ht, .string px, .int .i64 lv, .int .i64 fo]] w fun e w' => e = .returned (.bool (cmdB ⟨4, A, B, C, D, S, wd, ht, px, lv, fo⟩)) ∧ Below w.heap.size w w' := by
  have B0 := yz (below3 w (.cells #[.int .i64 4, .int .i64 A, .int .i64 B, .int .i64 C, .int .i64 D, .slice a n c, .int .i64 wd, .int .i64 ht, .string px, .int .i64 lv, .int .i64 fo] 45) (.cells #[.int .i64 0, .int .i64 0, .int .i64 0, .int .i64 0] 35) (.cells #[.int .i64 0, .int .i64 0, .string ⟨#[]⟩] 43))
  have A0 := yz (((blk_new w [.int .i64 4, .int .i64 A, .int .i64 B, .int .i64 C, .int .i64 D, .slice a n c, .int .i64 wd, .int .i64 ht, .string px, .int .i64 lv, .int .i64 fo] 45).alloc (.cells #[.int .i64 0, .int .i64 0, .int .i64 0, .int .i64 0] 35)).alloc (.cells #[.int .i64 0, .int .i64 0, .string ⟨#[]⟩] 43))
  obtain ⟨y1, e1⟩ : ∃ y, frEq wd ht 0 0 px ⟨#[]⟩ = y := ⟨_, rfl⟩
  obtain ⟨y2, e2⟩ : ∃ y, (lv == 0) = y := ⟨_, rfl⟩
  obtain ⟨y3, e3⟩ : ∃ y, (fo == 0) = y := ⟨_, rfl⟩
  obtain ⟨y4, e4⟩ : ∃ y, eqT A B C D 0 0 0 0 = y := ⟨_, rfl⟩
  obtain ⟨y5, e5⟩ : ∃ y, ((n : Int) == 0) = y := ⟨_, rfl⟩
  have HO : Hid (cmdB ⟨4, A, B, C, D, S, wd, ht, px, lv, fo⟩ = (y4 && y5 && frameB wd ht px && spanB 0 255 lv && spanB 1 40 fo)) := yz (by
    rw [cmd_4 rfl]
    simp only [← e1, ← e2, ← e3, ← e4, ← e5, ← hn]
    unfold tz
    dsimp only
    rw [noS_int])
  have x1 : ∀ W : World, (binOp .eql 43 (.agg #[.int .i64 wd, .int .i64 ht, .string px]) (.agg #[.int .i64 0, .int .i64 0, .string ⟨#[]⟩])).run Tryz.prog W = .ok (.bool y1) W := fun W => by rw [eql_frame, e1]
  have x4 : ∀ W : World, (binOp .eql 35 (.agg #[.int .i64 A, .int .i64 B, .int .i64 C, .int .i64 D]) (.agg #[.int .i64 0, .int .i64 0, .int .i64 0, .int .i64 0])).run Tryz.prog W = .ok (.bool y4) W := fun W => by rw [eql_turn, e4]
  clear e1 e4 hn
  cases y4
  · skip
    go_enter Tryz.func27, Tryz.ntmps27
    go_wp2_with fail
    all_goals (go_ret; exact ⟨by rw [yx HO]; simp [*], yx B0⟩)
  cases y5
  · skip
    go_enter Tryz.func27, Tryz.ntmps27
    go_wp2_with fail
    all_goals (go_ret; exact ⟨by rw [yx HO]; simp [*], yx B0⟩)
  go_enter Tryz.func27, Tryz.ntmps27
  go_wp2_with fail
  all_goals
    refine (specFrameRight_any wd ht px _).mono ?_
    rintro e w1 ⟨rfl, hx⟩
    have A1 := yz ((yx A0).kept hx)
    have B1 := yz (below_call (yx B0) hx)
    clear hx A0 B0
    obtain ⟨q0, q1, q2, q3, q4, q5, q6, q7, q8, q9, q10⟩ := bcs11 (yx A1)
    cases hr : frameB wd ht px
    · rw [hr] at HO
      go_wp2_with fail
      all_goals (go_ret; exact ⟨by rw [yx HO]; simp [*], yx B1⟩)
    rw [hr] at HO
    go_wp2_with fail
    refine (l02Is_any lv 0 255 _).mono ?_
    rintro e w2 ⟨rfl, hw⟩
    rw [hw]
    clear hw w2
    have el : (decide (0 ≤ lv) && decide (lv ≤ 255)) = spanB 0 255 lv := rfl
    rw [el]
    cases hs : spanB 0 255 lv
    · rw [hs] at HO
      go_wp2_with fail
      all_goals (go_ret; exact ⟨by rw [yx HO]; simp [*], yx B1⟩)
    rw [hs] at HO
    go_wp2_with fail
    refine (l02Is_any fo 1 40 _).mono ?_
    rintro e w2 ⟨rfl, hw⟩
    rw [hw]
    clear hw w2
    have ef : (decide (1 ≤ fo) && decide (fo ≤ 40)) = spanB 1 40 fo := rfl
    rw [ef]
    go_wp2_with fail
    go_ret
    exact ⟨by rw [yx HO]; simp, yx B1⟩
set_option maxHeartbeats 4000000 in
set_option maxRecDepth 100000 in
theorem specCR_n (S : List D3) (kind A B C D wd ht lv fo : Int) (px : ByteArray) (a : Option Addr) (n c : Nat) (hn : S.length = n) (w : World) (h1 : kind ≠ 1) (h2 : kind ≠ 2) (h3 : kind ≠ 3) (h4 : kind ≠ 4) :
    Calls Tryz.prog 27 #[.agg #[.int .i64 kind, .int .i64 A, .int .i64 B, .int .i64 C, .int .i64 D, .slice a n c, .int .i64 wd, .int .i64 ht, .string px, .int .i64 lv, .int .i64 fo]] w fun e w' => e = .returned (.bool (cmdB ⟨kind, A, B, C, D, S, wd, ht, px, lv, fo⟩)) ∧ Below w.heap.size w w' := by
  have B0 := yz (below3 w (.cells #[.int .i64 kind, .int .i64 A, .int .i64 B, .int .i64 C, .int .i64 D, .slice a n c, .int .i64 wd, .int .i64 ht, .string px, .int .i64 lv, .int .i64 fo] 45) (.cells #[.int .i64 0, .int .i64 0, .int .i64 0, .int .i64 0] 35) (.cells #[.int .i64 0, .int .i64 0, .string ⟨#[]⟩] 43))
  have A0 := yz (((blk_new w [.int .i64 kind, .int .i64 A, .int .i64 B, .int .i64 C, .int .i64 D, .slice a n c, .int .i64 wd, .int .i64 ht, .string px, .int .i64 lv, .int .i64 fo] 45).alloc (.cells #[.int .i64 0, .int .i64 0, .int .i64 0, .int .i64 0] 35)).alloc (.cells #[.int .i64 0, .int .i64 0, .string ⟨#[]⟩] 43))
  obtain ⟨y1, e1⟩ : ∃ y, frEq wd ht 0 0 px ⟨#[]⟩ = y := ⟨_, rfl⟩
  obtain ⟨y2, e2⟩ : ∃ y, (lv == 0) = y := ⟨_, rfl⟩
  obtain ⟨y3, e3⟩ : ∃ y, (fo == 0) = y := ⟨_, rfl⟩
  obtain ⟨y4, e4⟩ : ∃ y, eqT A B C D 0 0 0 0 = y := ⟨_, rfl⟩
  obtain ⟨y5, e5⟩ : ∃ y, ((n : Int) == 0) = y := ⟨_, rfl⟩
  have HO : Hid (cmdB ⟨kind, A, B, C, D, S, wd, ht, px, lv, fo⟩ = false) := yz (cmd_n h1 h2 h3 h4)
  have x1 : ∀ W : World, (binOp .eql 43 (.agg #[.int .i64 wd, .int .i64 ht, .string px]) (.agg #[.int .i64 0, .int .i64 0, .string ⟨#[]⟩])).run Tryz.prog W = .ok (.bool y1) W := fun W => by rw [eql_frame, e1]
  have x4 : ∀ W : World, (binOp .eql 35 (.agg #[.int .i64 A, .int .i64 B, .int .i64 C, .int .i64 D]) (.agg #[.int .i64 0, .int .i64 0, .int .i64 0, .int .i64 0])).run Tryz.prog W = .ok (.bool y4) W := fun W => by rw [eql_turn, e4]
  clear e1 e4 hn
  go_enter Tryz.func27, Tryz.ntmps27
  go_wp2_with fail
  all_goals (go_ret; exact ⟨by rw [yx HO]; simp [*], yx B0⟩)
theorem specCommandRight_any (S : List D3) (kind A B C D wd ht lv fo : Int) (px : ByteArray) (a : Option Addr) (c : Nat) (w : World) (hn : S.length ≤ 1048576) (hS : Dirs w a S S.length) :
    Calls Tryz.prog 27 #[.agg #[.int .i64 kind, .int .i64 A, .int .i64 B, .int .i64 C, .int .i64 D, .slice a S.length c, .int .i64 wd, .int .i64 ht, .string px, .int .i64 lv, .int .i64 fo]] w fun e w' => e = .returned (.bool (cmdB ⟨kind, A, B, C, D, S, wd, ht, px, lv, fo⟩)) ∧ Below w.heap.size w w' := by
  by_cases h1 : kind = 1
  · subst h1; exact specCR_1 S A B C D wd ht lv fo px a _ c rfl w
  by_cases h2 : kind = 2
  · subst h2; exact specCR_2 S A B C D wd ht lv fo px a _ c rfl w
  by_cases h3 : kind = 3
  · subst h3; exact specCR_3 S A B C D wd ht lv fo px a _ c rfl w hn hS
  by_cases h4 : kind = 4
  · subst h4; exact specCR_4 S A B C D wd ht lv fo px a _ c rfl w
  exact specCR_n S kind A B C D wd ht lv fo px a _ c rfl w h1 h2 h3 h4
end Go.Proofs.YteoonaanoenjiaaGreatDoor
