/- The bytes of a frame's wish. -/
import Derived.Test.YtnffnjljjecphaaDoorCmG
namespace Go.Proofs.YtnffnjljjecphaaDoor
open Go.RowKit Go.Sort
set_option linter.unusedVariables false
set_option linter.unusedSimpArgs false

theorem blk5 {W : World} {b : Nat} {x0 x1 x2 x3 x4 : Value} {t : TypeId} (h : Blk W b [x0, x1, x2, x3, x4] t) : W.cell? ⟨b, 0, none⟩ = some x0 ∧ W.cell? ⟨b, 1, none⟩ = some x1 ∧ W.cell? ⟨b, 2, none⟩ = some x2 ∧ W.cell? ⟨b, 3, none⟩ = some x3 ∧ W.cell? ⟨b, 4, none⟩ = some x4 := ⟨h.cell 0 _ rfl, h.cell 1 _ rfl, h.cell 2 _ rfl, h.cell 3 _ rfl, h.cell 4 _ rfl⟩
set_option maxHeartbeats 2000000 in
set_option maxRecDepth 100000 in
theorem frameBody_any (wd ht lv fo : Int) (px : ByteArray) (w : World) (hf : frameB wd ht px = true) (hl : spanB 0 255 lv = true) (hfo : spanB 1 40 fo = true) : Calls Tryd.prog 151 #[.agg #[.int .i64 wd, .int .i64 ht, .string px, .int .i64 lv, .int .i64 fo]] w fun e w' => e = .returned (.string (numsTo [wd, ht, lv, fo] 4 ++ textS px)) ∧ Below w.heap.size w w' := by
  have hb := frameB_iff.1 hf
  rw [span_iff] at hl hfo
  have hpx : px.size ≤ 192 := by
    have : wd * ht ≤ 16 * 12 := Int.mul_le_mul hb.2.1 hb.2.2.2.1 (by omega) (by omega)
    omega
  have B0 := hide (below1 w (.cells #[.int .i64 wd, .int .i64 ht, .string px, .int .i64 lv, .int .i64 fo] 111))
  have A0 := hide (blk_new w [.int .i64 wd, .int .i64 ht, .string px, .int .i64 lv, .int .i64 fo] 111)
  have cN := hide (numbersText_any [wd, ht, lv, fo] (some ⟨(w.alloc (.cells #[.int .i64 wd, .int .i64 ht, .string px, .int .i64 lv, .int .i64 fo] 111)).heap.size, 0, none⟩) 4 ((w.alloc (.cells #[.int .i64 wd, .int .i64 ht, .string px, .int .i64 lv, .int .i64 fo] 111)).alloc (.cells #[.int .i64 wd, .int .i64 ht, .int .i64 lv, .int .i64 fo] 2)).drew (by simp) (okI_4 (by unfold okI; omega) (by unfold okI; omega) (by unfold okI; omega) (by unfold okI; omega)) (numL_new (w.alloc (.cells #[.int .i64 wd, .int .i64 ht, .string px, .int .i64 lv, .int .i64 fo] 111)) [wd, ht, lv, fo] 2))
  have cT := hide (fun W => implPutText_any px W (by omega))
  have e4 : [wd, ht, lv, fo].length = 4 := rfl
  have e1 : (w.alloc (.cells #[.int .i64 wd, .int .i64 ht, .string px, .int .i64 lv, .int .i64 fo] 111)).heap.size = w.heap.size + 1 := by simp
  rw [e4, e1] at cN
  clear e1
  have z1 := numsTo_size [wd, ht, lv, fo] 4
  have z2 := textS_size px
  generalize numsTo [wd, ht, lv, fo] 4 = tx at *
  generalize textS px = ty at *
  clear hb hl hfo hf e4 hpx
  go_enter Tryd.func151, Tryd.ntmps151
  go_wp2_with fail
  refine wp_region_held_drew (S := (fun w' => w'.cell? ⟨w.heap.size, 0, none⟩ = some (.int .i64 wd) ∧ w'.cell? ⟨w.heap.size, 1, none⟩ = some (.int .i64 ht) ∧ w'.cell? ⟨w.heap.size, 2, none⟩ = some (.string px) ∧ w'.cell? ⟨w.heap.size, 3, none⟩ = some (.int .i64 lv) ∧ w'.cell? ⟨w.heap.size, 4, none⟩ = some (.int .i64 fo))) (by kernel_rfl) ?_ (fun hHeld => ?_)
  · exact blk5 (unhide A0)
  have Bd := hide ((unhide B0).drew)
  have Ad := hide ((unhide A0).drewn)
  refine wpAnyH_take (i := 0) (oi := ({ dst := some 3, op := Op.fieldAddr 111 (Operand.tmp 1) 0, type := 0, pos := "l08_link.go:308", after := #[], guard := none } : Oper)) (v := ?_) rfl (by kernel_rfl) (by kernel_rfl) (by kernel_rfl) (fun _ _ _ h => h) (Or.inl ⟨by kernel_rfl, ?_⟩) (by assumption) ?_
  rotate_left
  · intro W0 hSw; (try dsimp only at hSw); go_simp <;> with_reducible rfl
  try simp only [Act.put, List.setIfInBounds_toArray, List.set_cons_zero, List.set_cons_succ]
  refine wpAnyH_take (i := 1) (oi := ({ dst := some 4, op := Op.fieldAddr 33 (Operand.tmp 3) 0, type := 0, pos := "l08_link.go:308", after := #[{ on := 0, ground := Ground.data }], guard := none } : Oper)) (v := ?_) rfl (by kernel_rfl) (by kernel_rfl) (by kernel_rfl) (fun _ _ _ h => h) (Or.inl ⟨by kernel_rfl, ?_⟩) (by assumption) ?_
  rotate_left
  · intro W0 hSw; (try dsimp only at hSw); go_simp <;> with_reducible rfl
  try simp only [Act.put, List.setIfInBounds_toArray, List.set_cons_zero, List.set_cons_succ]
  refine wpAnyH_take (i := 2) (oi := ({ dst := some 5, op := Op.load 2 (Operand.tmp 4), type := 2, pos := "l08_link.go:308", after := #[{ on := 1, ground := Ground.data }], guard := none } : Oper)) (v := ?_) rfl (by kernel_rfl) (by kernel_rfl) (by kernel_rfl) (fun _ _ _ h => h) (Or.inl ⟨by kernel_rfl, ?_⟩) (by assumption) ?_
  rotate_left
  · intro W0 hSw; (try dsimp only at hSw); go_simp <;> with_reducible rfl
  try simp only [Act.put, List.setIfInBounds_toArray, List.set_cons_zero, List.set_cons_succ]
  refine wpAnyH_take (i := 3) (oi := ({ dst := some 6, op := Op.fieldAddr 111 (Operand.tmp 1) 0, type := 0, pos := "l08_link.go:308", after := #[], guard := none } : Oper)) (v := ?_) rfl (by kernel_rfl) (by kernel_rfl) (by kernel_rfl) (fun _ _ _ h => h) (Or.inl ⟨by kernel_rfl, ?_⟩) (by assumption) ?_
  rotate_left
  · intro W0 hSw; (try dsimp only at hSw); go_simp <;> with_reducible rfl
  try simp only [Act.put, List.setIfInBounds_toArray, List.set_cons_zero, List.set_cons_succ]
  refine wpAnyH_take (i := 4) (oi := ({ dst := some 7, op := Op.fieldAddr 33 (Operand.tmp 6) 1, type := 0, pos := "l08_link.go:308", after := #[{ on := 3, ground := Ground.data }], guard := none } : Oper)) (v := ?_) rfl (by kernel_rfl) (by kernel_rfl) (by kernel_rfl) (fun _ _ _ h => h) (Or.inl ⟨by kernel_rfl, ?_⟩) (by assumption) ?_
  rotate_left
  · intro W0 hSw; (try dsimp only at hSw); go_simp <;> with_reducible rfl
  try simp only [Act.put, List.setIfInBounds_toArray, List.set_cons_zero, List.set_cons_succ]
  refine wpAnyH_take (i := 5) (oi := ({ dst := some 8, op := Op.load 2 (Operand.tmp 7), type := 2, pos := "l08_link.go:308", after := #[{ on := 4, ground := Ground.data }], guard := none } : Oper)) (v := ?_) rfl (by kernel_rfl) (by kernel_rfl) (by kernel_rfl) (fun _ _ _ h => h) (Or.inl ⟨by kernel_rfl, ?_⟩) (by assumption) ?_
  rotate_left
  · intro W0 hSw; (try dsimp only at hSw); go_simp <;> with_reducible rfl
  try simp only [Act.put, List.setIfInBounds_toArray, List.set_cons_zero, List.set_cons_succ]
  refine wpAnyH_take (i := 6) (oi := ({ dst := some 9, op := Op.fieldAddr 111 (Operand.tmp 1) 1, type := 0, pos := "l08_link.go:308", after := #[], guard := none } : Oper)) (v := ?_) rfl (by kernel_rfl) (by kernel_rfl) (by kernel_rfl) (fun _ _ _ h => h) (Or.inl ⟨by kernel_rfl, ?_⟩) (by assumption) ?_
  rotate_left
  · intro W0 hSw; (try dsimp only at hSw); go_simp <;> with_reducible rfl
  try simp only [Act.put, List.setIfInBounds_toArray, List.set_cons_zero, List.set_cons_succ]
  refine wpAnyH_take (i := 7) (oi := ({ dst := some 10, op := Op.load 2 (Operand.tmp 9), type := 2, pos := "l08_link.go:308", after := #[{ on := 6, ground := Ground.data }], guard := none } : Oper)) (v := ?_) rfl (by kernel_rfl) (by kernel_rfl) (by kernel_rfl) (fun _ _ _ h => h) (Or.inl ⟨by kernel_rfl, ?_⟩) (by assumption) ?_
  rotate_left
  · intro W0 hSw; (try dsimp only at hSw); go_simp <;> with_reducible rfl
  try simp only [Act.put, List.setIfInBounds_toArray, List.set_cons_zero, List.set_cons_succ]
  refine wpAnyH_take (i := 8) (oi := ({ dst := some 11, op := Op.fieldAddr 111 (Operand.tmp 1) 2, type := 0, pos := "l08_link.go:308", after := #[], guard := none } : Oper)) (v := ?_) rfl (by kernel_rfl) (by kernel_rfl) (by kernel_rfl) (fun _ _ _ h => h) (Or.inl ⟨by kernel_rfl, ?_⟩) (by assumption) ?_
  rotate_left
  · intro W0 hSw; (try dsimp only at hSw); go_simp <;> with_reducible rfl
  try simp only [Act.put, List.setIfInBounds_toArray, List.set_cons_zero, List.set_cons_succ]
  refine wpAnyH_take (i := 9) (oi := ({ dst := some 12, op := Op.load 2 (Operand.tmp 11), type := 2, pos := "l08_link.go:308", after := #[{ on := 8, ground := Ground.data }], guard := none } : Oper)) (v := ?_) rfl (by kernel_rfl) (by kernel_rfl) (by kernel_rfl) (fun _ _ _ h => h) (Or.inl ⟨by kernel_rfl, ?_⟩) (by assumption) ?_
  rotate_left
  · intro W0 hSw; (try dsimp only at hSw); go_simp <;> with_reducible rfl
  try simp only [Act.put, List.setIfInBounds_toArray, List.set_cons_zero, List.set_cons_succ]
  refine wpAnyH_take (i := 12) (oi := ({ dst := some 15, op := Op.fieldAddr 111 (Operand.tmp 1) 0, type := 0, pos := "l08_link.go:308", after := #[], guard := none } : Oper)) (v := ?_) rfl (by kernel_rfl) (by kernel_rfl) (by kernel_rfl) (fun _ _ _ h => h) (Or.inl ⟨by kernel_rfl, ?_⟩) (by assumption) ?_
  rotate_left
  · intro W0 hSw; (try dsimp only at hSw); go_simp <;> with_reducible rfl
  try simp only [Act.put, List.setIfInBounds_toArray, List.set_cons_zero, List.set_cons_succ]
  refine wpAnyH_take (i := 13) (oi := ({ dst := some 16, op := Op.fieldAddr 33 (Operand.tmp 15) 2, type := 0, pos := "l08_link.go:308", after := #[{ on := 12, ground := Ground.data }], guard := none } : Oper)) (v := ?_) rfl (by kernel_rfl) (by kernel_rfl) (by kernel_rfl) (fun _ _ _ h => h) (Or.inl ⟨by kernel_rfl, ?_⟩) (by assumption) ?_
  rotate_left
  · intro W0 hSw; (try dsimp only at hSw); go_simp <;> with_reducible rfl
  try simp only [Act.put, List.setIfInBounds_toArray, List.set_cons_zero, List.set_cons_succ]
  refine wpAnyH_take (i := 14) (oi := ({ dst := some 17, op := Op.load 9 (Operand.tmp 16), type := 9, pos := "l08_link.go:308", after := #[{ on := 13, ground := Ground.data }], guard := none } : Oper)) (v := ?_) rfl (by kernel_rfl) (by kernel_rfl) (by kernel_rfl) (fun _ _ _ h => h) (Or.inl ⟨by kernel_rfl, ?_⟩) (by assumption) ?_
  rotate_left
  · intro W0 hSw; (try dsimp only at hSw); go_simp <;> with_reducible rfl
  try simp only [Act.put, List.setIfInBounds_toArray, List.set_cons_zero, List.set_cons_succ]
  refine wpAnyH_ready (rs := [10]) (by kernel_rfl) (by simp) ?_
  refine (AllReadyH.cons rfl (fun K hK => ?_) AllReadyH.nil)
  go_simp
  have B1 := hide ((below2 w (.cells #[.int .i64 wd, .int .i64 ht, .string px, .int .i64 lv, .int .i64 fo] 111) (.cells #[.int .i64 wd, .int .i64 ht, .int .i64 lv, .int .i64 fo] 2)).drew)
  have A1 := hide (((blk_new w [.int .i64 wd, .int .i64 ht, .string px, .int .i64 lv, .int .i64 fo] 111).alloc (.cells #[.int .i64 wd, .int .i64 ht, .int .i64 lv, .int .i64 fo] 2)).drewn)
  clear Bd Ad
  refine hK.out _ _ ?_ (fun hHeld1 => ?_)
  · exact blk5 (unhide A1)
  clear hK K
  refine wpAnyH_ready (rs := [11]) (by kernel_rfl) (by simp) ?_
  refine (AllReadyH.cons rfl (fun K hK => ?_) AllReadyH.nil)
  go_simp
  refine (unhide cN).mono ?_
  rintro e v2 ⟨rfl, hx⟩
  have B2 := hide (below_call (unhide B1) hx)
  have A2 := hide ((unhide A1).kept hx)
  clear hx B1 A1
  refine hK.out _ _ ?_ (fun hHeld2 => ?_)
  · exact blk5 (unhide A2)
  clear hK K
  refine wpAnyH_ready (rs := [15]) (by kernel_rfl) (by simp) ?_
  refine (AllReadyH.cons rfl (fun K hK => ?_) AllReadyH.nil)
  go_simp
  refine (unhide cT _).mono ?_
  rintro e v3 ⟨rfl, hx⟩
  have B3 := hide (below_call (unhide B2) hx)
  have A3 := hide ((unhide A2).kept hx)
  clear hx B2 A2
  refine hK.out _ _ ?_ (fun hHeld3 => ?_)
  · exact blk5 (unhide A3)
  clear hK K
  refine wpAnyH_ready (rs := [16]) (by kernel_rfl) (by simp) ?_
  refine (AllReadyH.cons rfl (fun K hK => ?_) AllReadyH.nil)
  go_simp
  refine (joinTexts_any tx ty _ (by omega) (by omega)).mono ?_
  rintro e v4 ⟨rfl, hx⟩
  have B4 := hide (below_call (unhide B3) hx)
  have A4 := hide ((unhide A3).kept hx)
  clear hx B3 A3
  refine hK.out _ _ ?_ (fun hHeld4 => ?_)
  · exact blk5 (unhide A4)
  clear hK K
  refine wpAnyH_ready (rs := [17]) (by kernel_rfl) (by simp) ?_
  refine (AllReadyH.cons rfl (fun K hK => ?_) AllReadyH.nil)
  go_simp
  refine hK.out _ _ ?_ (fun hHeld5 => ?_)
  · exact blk5 (unhide A4)
  clear hK K
  refine wpAnyH_done (by kernel_rfl) ?_ _
  go_wp2_with fail
  go_ret
  exact ⟨rfl, unhide B4⟩
end Go.Proofs.YtnffnjljjecphaaDoor
