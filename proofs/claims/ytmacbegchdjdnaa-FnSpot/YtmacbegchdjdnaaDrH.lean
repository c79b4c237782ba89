/- What the law on spots draws. -/
import Derived.Test.YtmacbegchdjdnaaDrG
namespace Go.Proofs.Ytmacbegchdjdnaa
open Go.RowKit Go.Sort
set_option linter.unusedVariables false
set_option linter.unusedSimpArgs false

theorem Row.upF {w w' : World} {a : Option Addr} {len B B' : Nat} (h : Row w a len B) (hB : B ≤ B') (hk : ∀ k, k < B → w'.heap[k]? = w.heap[k]?) : Row w' a len B' := by
  have h' := h.kept hk
  rcases h' with h | ⟨bx, ox, rfl, hb, hz⟩
  · exact .inl h
  · exact .inr ⟨bx, ox, rfl, Nat.lt_of_lt_of_le hb hB, hz⟩
theorem Row.belowF {w w1 : World} {a : Option Addr} {len : Nat} (h : Row w a len w.heap.size) (hB : Below w.heap.size w w1) : Row w1 a len w1.heap.size := h.upF hB.size hB.block
/-- grown by a block that is new since B: below B all is as it was -/
theorem belowG {B b : Nat} {w w1 w2 : World} (h : Below B w w1) (hg : w1.grownBy w2 (some b)) (hb : B ≤ b) (hB : B ≤ w1.heap.size) : Below B w w2 :=
  h.trans ⟨hg.os, hg.tape, hg.output, hg.size, fun k hk => hg.block k (by omega) (fun e => by have := Option.some.inj e; omega)⟩
theorem SrcAt.drewF {b : Nat} {w : World} (h : SrcAt b w) : SrcAt b w.drew := h.kept (row := none) ⟨rfl, rfl, rfl, Nat.le_refl _, fun _ _ _ => rfl⟩ (fun _ e => by cases e)
theorem below_five {w w1 : World} {b : Nat} (h : Below w.heap.size w w1) (hb : w.heap.size ≤ b) (x y z u v : Value) : Below w.heap.size w (((((w1.setCell ⟨b, 0, none⟩ x).setCell ⟨b, 1, none⟩ y).setCell ⟨b, 2, none⟩ z).setCell ⟨b, 3, none⟩ u).setCell ⟨b, 4, none⟩ v) := ((((h.setCell hb _).setCell hb _).setCell hb _).setCell hb _).setCell hb _
set_option maxHeartbeats 8000000 in
set_option maxRecDepth 100000 in
theorem drawBlobGood_any (a : Option Addr) (len cap : Nat) (w : World) (hl : len ≤ 1048576) (hR : Row w a len w.heap.size) :
    Calls Try.prog 21 #[.slice a len cap] w fun e w' => (∃ (ar su sx sy : Int) (ed : Bool) (lo hi : Int), e = .returned (.tuple #[.agg #[.int .i64 ar, .int .i64 su, .int .i64 sx, .int .i64 sy, .bool ed], .int .i64 lo, .int .i64 hi])) ∧ Below w.heap.size w w' := by
  have B0 := below1 w (.cells #[.int .i64 0, .int .i64 0, .int .i64 0, .int .i64 0, .bool false] 40)
  have R0 := blk_new w [.int .i64 0, .int .i64 0, .int .i64 0, .int .i64 0, .bool false] 40
  go_enter Try.func21, Try.ntmps21
  go_wp2_with fail
  generalize w.alloc (.cells #[.int .i64 0, .int .i64 0, .int .i64 0, .int .i64 0, .bool false] 40) = W0 at B0 R0 ⊢
  refine (source_any a len cap _ hl (hR.belowF B0)).mono ?_
  rintro e W1 ⟨rfl, hS1, hx⟩
  have hsb : w.heap.size < W0.heap.size := R0.lt
  have R1 := R0.kept hx
  have B1 := below_call B0 hx
  generalize W0.heap.size = sb at *
  clear hx B0 R0
  go_wp2_with fail
  refine (l05Frame_any sb _ hS1).mono ?_
  rintro e W2 ⟨wd, ht, s, rfl, hs, hS2, hg2⟩
  have R2 := R1.grownC hg2 (by omega)
  have B2 := belowG B1 hg2 (by omega) B1.size
  clear hS1 hg2 R1 B1
  go_wp2_with fail
  refine (l05Blob_any sb wd ht s _ hs hS2).mono ?_
  rintro e W3 ⟨ar, su, sx, sy, ed, rfl, hS3, hg3⟩
  have R3 := R2.grownC hg3 (by omega)
  have B3 := belowG B2 hg3 (by omega) B2.size
  have Z := below1 W3 (.cells #[.int .i64 ar, .int .i64 su, .int .i64 sx, .int .i64 sy, .bool ed] 40)
  have D3 := blk_new W3 [.int .i64 ar, .int .i64 su, .int .i64 sx, .int .i64 sy, .bool ed] 40
  have R4 := R3.kept Z
  have B4 := below_call B3 Z
  have hS4 := hS3.allocsF (.cells #[.int .i64 ar, .int .i64 su, .int .i64 sx, .int .i64 sy, .bool ed] 40)
  have hlt3 := hS3.lt
  have hrl3 := R3.lt
  clear hS2 hS3 hg3 R2 B2 R3 B3 Z
  go_wp2_with fail
  generalize W3.alloc (.cells #[.int .i64 ar, .int .i64 su, .int .i64 sx, .int .i64 sy, .bool ed] 40) = W4 at D3 R4 B4 hS4 ⊢
  generalize W3.heap.size = db at *
  refine (n_any sb 3 _ hS4 (by omega)).mono ?_
  rintro e W5 ⟨k5, rfl, hk50, hk5, _, hS5, hg5⟩
  have hk5' := hk5 (by omega)
  have D5 := D3.grownC hg5 (by omega)
  have R5 := R4.grownC hg5 (by omega)
  have B5 := belowG B4 hg5 (by omega) B4.size
  clear hS4 hg5 D3 R4 B4 hk5
  have d0 := D5.cell 0 _ rfl
  have d1 := D5.cell 1 _ rfl
  have d2 := D5.cell 2 _ rfl
  have d3 := D5.cell 3 _ rfl
  have d4 := D5.cell 4 _ rfl
  go_wp2_with fail
  refine wp_region_held_drew (S := (fun w' => w'.cell? ⟨db, 0, none⟩ = some (.int .i64 ar) ∧ w'.cell? ⟨db, 1, none⟩ = some (.int .i64 su) ∧ w'.cell? ⟨db, 2, none⟩ = some (.int .i64 sx) ∧ w'.cell? ⟨db, 3, none⟩ = some (.int .i64 sy) ∧ w'.cell? ⟨db, 4, none⟩ = some (.bool ed))) (by kernel_rfl) ⟨d0, d1, d2, d3, d4⟩ (fun hHeld => ?_)
  have hkw : IntKind.i64.wrap 0 = 0 := by decide
  refine wpAnyH_take (i := 0) (v := ?_) rfl (by kernel_rfl) (by kernel_rfl) (by kernel_rfl) (fun _ _ _ h => h) (Or.inl ⟨by rfl, ?_⟩) (by assumption) ?_
  rotate_left
  · intro W0 hSw; (try dsimp only at hSw); go_simp <;> with_reducible rfl
  try simp only [Act.put, List.setIfInBounds_toArray, List.set_cons_zero, List.set_cons_succ]
  refine wpAnyH_take (i := 1) (v := ?_) rfl (by kernel_rfl) (by kernel_rfl) (by kernel_rfl) (fun _ _ _ h => h) (Or.inl ⟨by rfl, ?_⟩) (by assumption) ?_
  rotate_left
  · intro W0 hSw; (try dsimp only at hSw); go_simp <;> with_reducible rfl
  try simp only [Act.put, List.setIfInBounds_toArray, List.set_cons_zero, List.set_cons_succ]
  refine wpAnyH_take (i := 2) (v := ?_) rfl (by kernel_rfl) (by kernel_rfl) (by kernel_rfl) (fun _ _ _ h => h) (Or.inl ⟨by rfl, ?_⟩) (by assumption) ?_
  rotate_left
  · intro W0 hSw; (try dsimp only at hSw); go_simp <;> with_reducible rfl
  try simp only [Act.put, List.setIfInBounds_toArray, List.set_cons_zero, List.set_cons_succ]
  refine wpAnyH_take (i := 3) (v := ?_) rfl (by kernel_rfl) (by kernel_rfl) (by kernel_rfl) (fun _ _ _ h => h) (Or.inl ⟨by rfl, ?_⟩) (by assumption) ?_
  rotate_left
  · intro W0 hSw; (try dsimp only at hSw); go_simp <;> with_reducible rfl
  try simp only [Act.put, List.setIfInBounds_toArray, List.set_cons_zero, List.set_cons_succ]
  refine wpAnyH_ready (rs := [4]) (by kernel_rfl) (by simp) ?_
  refine (AllReadyH.cons rfl (fun K hK => ?_) AllReadyH.nil)
  go_simp
  refine (n_any sb 4 _ (hS5.drewF) (by omega)).mono ?_
  rintro e w1 ⟨k1, rfl, hk1a, hk1b, _, hS1, hg1⟩
  have hk1c := hk1b (by omega)
  have hwr : IntKind.i64.wrap (k5 + k1) = k5 + k1 := by unfold IntKind.wrap; simp [IntKind.signed, IntKind.bits]; omega
  have D1 := D5.drewn.grownC hg1 (by omega)
  have R1 := R5.drewn.grownC hg1 (by omega)
  have B1 := belowG B5.drew hg1 (by omega) B5.size
  refine hK.out _ _ ?_ (fun hHeld1 => ?_)
  · exact ⟨D1.cell 0 _ rfl, D1.cell 1 _ rfl, D1.cell 2 _ rfl, D1.cell 3 _ rfl, D1.cell 4 _ rfl⟩
  clear hK K
  refine wpAnyH_take (i := 5) (v := ?_) rfl (by kernel_rfl) (by kernel_rfl) (by kernel_rfl) (fun _ _ _ h => h) (Or.inl ⟨by rfl, ?_⟩) (by assumption) ?_
  rotate_left
  · intro W0 hSw; (try dsimp only at hSw); go_simp <;> with_reducible rfl
  try simp only [Act.put, List.setIfInBounds_toArray, List.set_cons_zero, List.set_cons_succ]
  refine wpAnyH_ready (rs := [6]) (by kernel_rfl) (by simp) ?_
  refine (AllReadyH.cons rfl (fun K hK => ?_) AllReadyH.nil)
  have r0 := R1.cell 0 _ rfl
  have r1 := R1.cell 1 _ rfl
  have r2 := R1.cell 2 _ rfl
  have r3 := R1.cell 3 _ rfl
  have r4 := R1.cell 4 _ rfl
  have x0 := R1.free 0
  have x1 := R1.free 1
  have x2 := R1.free 2
  have x3 := R1.free 3
  have x4 := R1.free 4
  have D2_0 := Blk.other D1 ⟨w.heap.size, 0, none⟩ (.int .i64 ar) (by show db ≠ w.heap.size; omega)
  have D2_1 := Blk.other D2_0 ⟨w.heap.size, 1, none⟩ (.int .i64 su) (by show db ≠ w.heap.size; omega)
  have D2_2 := Blk.other D2_1 ⟨w.heap.size, 2, none⟩ (.int .i64 sx) (by show db ≠ w.heap.size; omega)
  have D2_3 := Blk.other D2_2 ⟨w.heap.size, 3, none⟩ (.int .i64 sy) (by show db ≠ w.heap.size; omega)
  have D2_4 := Blk.other D2_3 ⟨w.heap.size, 4, none⟩ (.bool ed) (by show db ≠ w.heap.size; omega)
  go_simp
  refine hK.out _ _ ?_ (fun hHeld2 => ?_)
  · exact ⟨D2_4.cell 0 _ rfl, D2_4.cell 1 _ rfl, D2_4.cell 2 _ rfl, D2_4.cell 3 _ rfl, D2_4.cell 4 _ rfl⟩
  clear hK K
  refine wpAnyH_ready (rs := [7]) (by kernel_rfl) (by simp) ?_
  refine (AllReadyH.cons rfl (fun K hK => ?_) AllReadyH.nil)
  go_simp
  refine hK.out _ _ ?_ (fun hHeld3 => ?_)
  · exact ⟨D2_4.cell 0 _ rfl, D2_4.cell 1 _ rfl, D2_4.cell 2 _ rfl, D2_4.cell 3 _ rfl, D2_4.cell 4 _ rfl⟩
  clear hK K
  refine wpAnyH_ready (rs := [8]) (by kernel_rfl) (by simp) ?_
  refine (AllReadyH.cons rfl (fun K hK => ?_) AllReadyH.nil)
  go_simp
  refine hK.out _ _ ?_ (fun hHeld4 => ?_)
  · exact ⟨D2_4.cell 0 _ rfl, D2_4.cell 1 _ rfl, D2_4.cell 2 _ rfl, D2_4.cell 3 _ rfl, D2_4.cell 4 _ rfl⟩
  clear hK K
  refine wpAnyH_done (by kernel_rfl) ?_ _
  go_wp2_with fail
  exact bodyPost_ret (v := .tuple #[.agg #[.int .i64 ar, .int .i64 su, .int .i64 sx, .int .i64 sy, .bool ed], .int .i64 k5, .int .i64 (k5 + k1)]) (by simp [results, Try.results21, go_sem, r0, r1, r2, r3, r4, hwr]) rfl ⟨by first | exact ⟨_, _, _, _, _, _, _, rfl⟩ | (cases ed <;> simp), below_five B1 (Nat.le_refl _) _ _ _ _ _⟩
end Go.Proofs.Ytmacbegchdjdnaa
