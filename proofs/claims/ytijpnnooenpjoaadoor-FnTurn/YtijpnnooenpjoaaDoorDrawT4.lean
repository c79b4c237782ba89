/- What the law on turns draws: DrawTurnRight, DrawTurnText, DrawTurnOf. -/
import Derived.Test.YtijpnnooenpjoaaDoorDrawT2
import Derived.Deep.RegionWith
import Derived.Deep.RegionHeld
import Derived.Deep.QuietTactic
import Derived.BigQuiet
namespace Go.Proofs.YtijpnnooenpjoaaDoor
open Go.RowKit
set_option linter.unusedVariables false
set_option linter.unusedSimpArgs false

set_option maxHeartbeats 1000000 in
set_option maxRecDepth 100000 in
theorem drawRight_any (a : Option Addr) (len cap : Nat) (w : World) (hl : len ≤ 1048576) (hR : Row w a len w.heap.size) :
    Calls Tryd.prog 51 #[.slice a len cap] w fun e w' => ∃ p q r s : Int, e = .returned (.agg #[.int .i64 p, .int .i64 q, .int .i64 r, .int .i64 s]) ∧ Below w.heap.size w w' := by
  have HR := hide hR
  clear hR
  go_enter Tryd.func51, Tryd.ntmps51
  go_wp2_with fail
  refine (source_any a len cap _ hl ((unhide HR).allocT _)).mono ?_
  rintro e w1 ⟨rfl, hS1, hB1⟩
  have vr := (turnAt_new w 0 0 0 0 37).kept (by simp) hB1
  have fr := (freeT_new w 0 0 0 0 37).kept (by simp) hB1
  have hB : Below w.heap.size w w1 := below_call (below1 _ _) hB1
  simp only [World.size_alloc] at hS1
  have HS1 := hide hS1
  clear hS1 hB1
  go_wp2_with fail
  refine (one_any (w.heap.size + 1) 8 _ (unhide HS1) (by omega)).mono ?_
  rintro e w2 ⟨y, rfl, hS2, hg2⟩
  replace fr := fr.grown vr.lt hg2 (by omega)
  replace vr := vr.grown hg2 (by omega)
  replace hB := below_grownB hB hg2 (by omega)
  have HS2 := hide hS2
  clear hS2 hg2 HS1
  cases y
  · go_wp2_with fail
    refine (l03Turn_any (w.heap.size + 1) _ (unhide HS2)).mono ?_
    rintro e w3 ⟨p, q, r, s, rfl, hS3, hg3⟩
    replace fr := fr.grown vr.lt hg3 (by omega)
    replace vr := vr.grown hg3 (by omega)
    replace hB := below_grownB hB hg3 (by omega)
    clear hS3 hg3 HS2
    obtain ⟨cr0, cr1, cr2, cr3⟩ := vr
    obtain ⟨fr0, fr1, fr2, fr3⟩ := fr
    go_wp2_with fail
    exact bodyPost_ret (v := .agg #[.int .i64 p, .int .i64 q, .int .i64 r, .int .i64 s]) (by simp [results, Tryd.results51, go_sem, cr0, cr1, cr2, cr3]) rfl ⟨p, q, r, s, rfl, below_set4 hB (Nat.le_refl _) _ _ _ _⟩
  · go_wp2_with fail
    refine (n_any (w.heap.size + 1) 2 _ (unhide HS2) (by omega)).mono ?_
    rintro e w3 ⟨z0, rfl, _, _, _, hS3, hg3⟩
    replace fr := fr.grown vr.lt hg3 (by omega)
    replace vr := vr.grown hg3 (by omega)
    replace hB := below_grownB hB hg3 (by omega)
    have HS3 := hide hS3
    clear hS3 hg3 HS2
    go_wp2_with fail
    refine (n_any (w.heap.size + 1) 2 _ (unhide HS3) (by omega)).mono ?_
    rintro e w4 ⟨z1, rfl, _, _, _, hS4, hg4⟩
    replace fr := fr.grown vr.lt hg4 (by omega)
    replace vr := vr.grown hg4 (by omega)
    replace hB := below_grownB hB hg4 (by omega)
    clear hS4 hg4 HS3
    obtain ⟨cr0, cr1, cr2, cr3⟩ := vr
    obtain ⟨fr0, fr1, fr2, fr3⟩ := fr
    go_wp2_with fail
    exact bodyPost_ret (v := .agg #[.int .i64 (2 * z0), .int .i64 (2 * z1), .int .i64 0, .int .i64 0]) (by simp [results, Tryd.results51, go_sem, cr0, cr1, cr2, cr3]) rfl ⟨_, _, _, _, rfl, below_set4 hB (Nat.le_refl _) _ _ _ _⟩

set_option maxRecDepth 100000 in
theorem drawText_any (a : Option Addr) (len cap : Nat) (w : World) (hl : len ≤ 1048576) (hR : Row w a len w.heap.size) :
    Calls Tryd.prog 18 #[.slice a len cap] w fun e w' => ∃ p q r s : Int, e = .returned (.agg #[.int .i64 p, .int .i64 q, .int .i64 r, .int .i64 s]) ∧ Below w.heap.size w w' := by
  have HR := hide hR
  clear hR
  go_enter Tryd.func18, Tryd.ntmps18
  go_wp2_with fail
  refine (drawRight_any a len cap _ hl ((unhide HR).allocT _)).mono ?_
  rintro e w1 ⟨p, q, r, s, rfl, hB1⟩
  have vr := (turnAt_new w 0 0 0 0 37).kept (by simp) hB1
  have fr := (freeT_new w 0 0 0 0 37).kept (by simp) hB1
  have hB : Below w.heap.size w w1 := below_call (below1 _ _) hB1
  clear hB1
  obtain ⟨cr0, cr1, cr2, cr3⟩ := vr
  obtain ⟨fr0, fr1, fr2, fr3⟩ := fr
  go_wp2_with fail
  exact bodyPost_ret (v := .agg #[.int .i64 p, .int .i64 q, .int .i64 r, .int .i64 s]) (by simp [results, Tryd.results18, go_sem, cr0, cr1, cr2, cr3]) rfl ⟨p, q, r, s, rfl, below_set4 hB (Nat.le_refl _) _ _ _ _⟩

theorem three_alloc {w : World} {b : Nat} {p r s : Value} (h0 : w.cell? ⟨b, 0, none⟩ = some p) (h2 : w.cell? ⟨b, 2, none⟩ = some r) (h3 : w.cell? ⟨b, 3, none⟩ = some s) (o : Obj) : (w.alloc o).drew.cell? ⟨b, 0, none⟩ = some p ∧ (w.alloc o).drew.cell? ⟨b, 2, none⟩ = some r ∧ (w.alloc o).drew.cell? ⟨b, 3, none⟩ = some s := by
  have hb : b < w.heap.size := World.block_lt_of_cell? w _ h0
  have hB := below1 w o
  exact ⟨by show (w.alloc o).cell? _ = _; rw [hB.cell (p := ⟨b, 0, none⟩) hb]; exact h0, by show (w.alloc o).cell? _ = _; rw [hB.cell (p := ⟨b, 2, none⟩) hb]; exact h2, by show (w.alloc o).cell? _ = _; rw [hB.cell (p := ⟨b, 3, none⟩) hb]; exact h3⟩
theorem three_more {w : World} {b : Nat} {p r s : Value} (h0 : w.cell? ⟨b, 0, none⟩ = some p) (h2 : w.cell? ⟨b, 2, none⟩ = some r) (h3 : w.cell? ⟨b, 3, none⟩ = some s) (o : Obj) : (w.alloc o).cell? ⟨b, 0, none⟩ = some p ∧ (w.alloc o).cell? ⟨b, 2, none⟩ = some r ∧ (w.alloc o).cell? ⟨b, 3, none⟩ = some s := three_alloc h0 h2 h3 o
theorem litCell (w : World) (T : TypeId) (k : Nat) (hk : (k : Int) < 4) : ∃ v : Int, (w.alloc (.cells #[.int .i64 1000, .int .i64 1001, .int .i64 (-1001), .int .i64 7] T)).cell? ⟨w.heap.size, k, none⟩ = some (.int .i64 v) := by
  have hk' : k < 4 := by omega
  match k, hk' with
  | 0, _ => exact ⟨1000, by simp⟩
  | 1, _ => exact ⟨1001, by simp⟩
  | 2, _ => exact ⟨-1001, by simp⟩
  | 3, _ => exact ⟨7, by simp⟩
theorem litGrown (w wn : World) (b : Nat) (T : TypeId) (k : Nat) (hk : (k : Int) < 4) (hg : (w.alloc (.cells #[.int .i64 1000, .int .i64 1001, .int .i64 (-1001), .int .i64 7] T)).drew.grownBy wn (some b)) (hb : b < w.heap.size) : ∃ v : Int, wn.cell? ⟨w.heap.size, k, none⟩ = some (.int .i64 v) := by
  have hg' : (w.alloc (.cells #[.int .i64 1000, .int .i64 1001, .int .i64 (-1001), .int .i64 7] T)).grownBy wn (some b) := ⟨hg.os, hg.tape, hg.output, hg.size, hg.block⟩
  have hk' : k < 4 := by omega
  match k, hk' with
  | 0, _ => exact ⟨_, edgeCell w wn b _ _ hg' hb 0 _ rfl⟩
  | 1, _ => exact ⟨_, edgeCell w wn b _ _ hg' hb 1 _ rfl⟩
  | 2, _ => exact ⟨_, edgeCell w wn b _ _ hg' hb 2 _ rfl⟩
  | 3, _ => exact ⟨_, edgeCell w wn b _ _ hg' hb 3 _ rfl⟩

set_option maxHeartbeats 1000000 in
set_option maxRecDepth 100000 in
theorem drawOf_any (a : Option Addr) (len cap : Nat) (w : World) (hl : len ≤ 1048576) (hR : Row w a len w.heap.size) :
    Calls Tryd.prog 13 #[.slice a len cap] w fun e w' => ∃ p q r s : Int, e = .returned (.tuple #[.int .i64 p, .int .i64 q, .int .i64 r, .int .i64 s]) ∧ Below w.heap.size w w' := by
  have HR := hide hR
  clear hR
  go_enter Tryd.func13, Tryd.ntmps13
  go_wp2_with fail
  refine (source_any a len cap _ hl (unhide HR)).mono ?_
  rintro e w1 ⟨rfl, hS1, hB⟩
  have HS1 := hide hS1
  clear hS1
  go_wp2_with fail
  refine (l03Turn_any w.heap.size _ (unhide HS1)).mono ?_
  rintro e w2 ⟨p, q, r, s, rfl, hS2, hg2⟩
  have hb2 := hS2.lt
  replace hB := below_grownB hB hg2 (Nat.le_refl _)
  have HS2 := hide hS2
  clear hS2 hg2 HS1
  go_wp2_with fail
  have vt := (turnAt_new w2 p q r s 37).alloc (.cells #[.int .i64 1, .int .i64 (-1), .int .i64 3, .int .i64 (-7), .int .i64 200, .int .i64 0] 2)
  have HS3 := hide (((unhide HS2).allocs (.cells #[.int .i64 p, .int .i64 q, .int .i64 r, .int .i64 s] 37)).allocs (.cells #[.int .i64 1, .int .i64 (-1), .int .i64 3, .int .i64 (-7), .int .i64 200, .int .i64 0] 2))
  replace hB := (hB.alloc (Nat.le_of_lt hb2) (.cells #[.int .i64 p, .int .i64 q, .int .i64 r, .int .i64 s] 37)).alloc (by simp; omega) (.cells #[.int .i64 1, .int .i64 (-1), .int .i64 3, .int .i64 (-7), .int .i64 200, .int .i64 0] 2)
  refine (n_any w.heap.size 6 _ (unhide HS3) (by omega)).mono ?_
  rintro e w3 ⟨z, rfl, z0, z1, _, hS4, hg4⟩
  have hz6 : z < 6 := z1 (by omega)
  obtain ⟨k, rfl⟩ : ∃ k : Nat, z = (k : Int) := ⟨z.toNat, by omega⟩
  have hlt2 : w.heap.size < (w2.alloc (.cells #[.int .i64 p, .int .i64 q, .int .i64 r, .int .i64 s] 37)).heap.size := by simp; omega
  have hc : ∃ v : Int, w3.cell? ⟨w2.heap.size + 1, k, none⟩ = some (.int .i64 v) := by
    have hk : k < 6 := by omega
    match k, hk with
    | 0, _ => exact ⟨_, by simpa using edgeCell (w2.alloc (.cells #[.int .i64 p, .int .i64 q, .int .i64 r, .int .i64 s] 37)) w3 w.heap.size _ _ hg4 hlt2 0 _ rfl⟩
    | 1, _ => exact ⟨_, by simpa using edgeCell (w2.alloc (.cells #[.int .i64 p, .int .i64 q, .int .i64 r, .int .i64 s] 37)) w3 w.heap.size _ _ hg4 hlt2 1 _ rfl⟩
    | 2, _ => exact ⟨_, by simpa using edgeCell (w2.alloc (.cells #[.int .i64 p, .int .i64 q, .int .i64 r, .int .i64 s] 37)) w3 w.heap.size _ _ hg4 hlt2 2 _ rfl⟩
    | 3, _ => exact ⟨_, by simpa using edgeCell (w2.alloc (.cells #[.int .i64 p, .int .i64 q, .int .i64 r, .int .i64 s] 37)) w3 w.heap.size _ _ hg4 hlt2 3 _ rfl⟩
    | 4, _ => exact ⟨_, by simpa using edgeCell (w2.alloc (.cells #[.int .i64 p, .int .i64 q, .int .i64 r, .int .i64 s] 37)) w3 w.heap.size _ _ hg4 hlt2 4 _ rfl⟩
    | 5, _ => exact ⟨_, by simpa using edgeCell (w2.alloc (.cells #[.int .i64 p, .int .i64 q, .int .i64 r, .int .i64 s] 37)) w3 w.heap.size _ _ hg4 hlt2 5 _ rfl⟩
  obtain ⟨v, hv⟩ := hc
  replace vt := vt.grown hg4 (by omega)
  replace hB := below_grownB hB hg4 (Nat.le_refl _)
  have HS4 := hide hS4
  clear z1 hS4 hg4 HS2 HS3 hlt2
  go_wp2_with fail
  refine (one_any w.heap.size 8 _ (unhide HS4) (by omega)).mono ?_
  rintro e w4 ⟨y, rfl, hS5, hg5⟩
  replace vt := vt.grown hg5 (by omega)
  replace hB := below_grownB hB hg5 (Nat.le_refl _)
  have HS5 := hide hS5
  clear hS5 hg5 HS4 hv
  cases y
  · obtain ⟨c0, c1, c2, c3⟩ := vt
    go_wp2_with fail
    go_quiet (fail)
    go_wp2
    exact bodyPost_ret (v := .tuple #[.int .i64 (wrap64 (v * p)), .int .i64 (wrap64 (v * q)), .int .i64 (wrap64 (v * r)), .int .i64 (wrap64 (v * s))]) (by simp [results, Tryd.results13, go_sem]) rfl ⟨_, _, _, _, rfl, below_call hB (below_drewN _ _)⟩
  · have HVt := hide vt
    have HB := hide hB
    obtain ⟨c0, c1, c2, c3⟩ := vt
    have hbx : w.heap.size < w2.heap.size := hb2
    have h4 : w2.heap.size < w4.heap.size := (unhide HVt).lt
    have cN : Hid (∀ W : World, SrcAt w.heap.size W → TurnAt W w2.heap.size p q r s → Below w.heap.size w W → Calls Tryd.prog 44 #[.pointer (some ⟨w.heap.size, 0, none⟩), .int .i64 4] W fun e w' => ∃ k : Nat, e = .returned (.int .i64 (k : Int)) ∧ (k : Int) < 4 ∧ TurnAt w' w2.heap.size p q r s ∧ Hid (Below w.heap.size w w') ∧ Hid (W.grownBy w' (some w.heap.size))) := hide (fun W hS hT hB => (n_any w.heap.size 4 _ hS (by omega)).mono fun e w' ⟨z, he, z0, z1, _, hSn, hgn⟩ => ⟨z.toNat, by rw [he, Int.toNat_of_nonneg z0], by have := z1 (by omega); omega, hT.grown hgn (by omega), hide (below_grownB hB hgn (Nat.le_refl _)), hide hgn⟩)
    clear hB
    go_wp2_with fail
    refine wp_region_held_drew (S := (fun w' => w'.cell? ⟨w2.heap.size, 0, none⟩ = some (.int .i64 p) ∧ w'.cell? ⟨w2.heap.size, 2, none⟩ = some (.int .i64 r) ∧ w'.cell? ⟨w2.heap.size, 3, none⟩ = some (.int .i64 s))) (by kernel_rfl) ?_ (fun hHeld => ?_)
    · exact ⟨c0, c2, c3⟩
    refine wpAnyH_take (i := 0) (v := ?_) rfl (by kernel_rfl) (by kernel_rfl) (by kernel_rfl) (fun _ _ _ h => h) (Or.inl ⟨by rfl, ?_⟩) (by assumption) ?_
    rotate_left
    · intro W0 hSw; (try dsimp only at hSw); go_simp <;> with_reducible rfl
    try simp only [Act.put, List.setIfInBounds_toArray, List.set_cons_zero, List.set_cons_succ]
    refine wpAnyH_take (i := 1) (v := ?_) rfl (by kernel_rfl) (by kernel_rfl) (by kernel_rfl) (fun _ _ _ h => h) (Or.inl ⟨by rfl, ?_⟩) (by assumption) ?_
    rotate_left
    · intro W0 hSw; (try dsimp only at hSw); go_simp <;> with_reducible rfl
    try simp only [Act.put, List.setIfInBounds_toArray, List.set_cons_zero, List.set_cons_succ]
    refine wpAnyH_take (i := 3) (v := ?_) rfl (by kernel_rfl) (by kernel_rfl) (by kernel_rfl) (fun _ _ _ h => h) (Or.inl ⟨by rfl, ?_⟩) (by assumption) ?_
    rotate_left
    · intro W0 hSw; (try dsimp only at hSw); go_simp <;> with_reducible rfl
    try simp only [Act.put, List.setIfInBounds_toArray, List.set_cons_zero, List.set_cons_succ]
    refine wpAnyH_take (i := 7) (v := ?_) rfl (by kernel_rfl) (by kernel_rfl) (by kernel_rfl) (fun _ _ _ h => h) (Or.inl ⟨by rfl, ?_⟩) (by assumption) ?_
    rotate_left
    · intro W0 hSw; (try dsimp only at hSw); go_simp <;> with_reducible rfl
    try simp only [Act.put, List.setIfInBounds_toArray, List.set_cons_zero, List.set_cons_succ]
    refine wpAnyH_take (i := 8) (v := ?_) rfl (by kernel_rfl) (by kernel_rfl) (by kernel_rfl) (fun _ _ _ h => h) (Or.inl ⟨by rfl, ?_⟩) (by assumption) ?_
    rotate_left
    · intro W0 hSw; (try dsimp only at hSw); go_simp <;> with_reducible rfl
    try simp only [Act.put, List.setIfInBounds_toArray, List.set_cons_zero, List.set_cons_succ]
    refine wpAnyH_take (i := 9) (v := ?_) rfl (by kernel_rfl) (by kernel_rfl) (by kernel_rfl) (fun _ _ _ h => h) (Or.inl ⟨by rfl, ?_⟩) (by assumption) ?_
    rotate_left
    · intro W0 hSw; (try dsimp only at hSw); go_simp <;> with_reducible rfl
    try simp only [Act.put, List.setIfInBounds_toArray, List.set_cons_zero, List.set_cons_succ]
    refine wpAnyH_take (i := 10) (v := ?_) rfl (by kernel_rfl) (by kernel_rfl) (by kernel_rfl) (fun _ _ _ h => h) (Or.inl ⟨by rfl, ?_⟩) (by assumption) ?_
    rotate_left
    · intro W0 hSw; (try dsimp only at hSw); go_simp <;> with_reducible rfl
    try simp only [Act.put, List.setIfInBounds_toArray, List.set_cons_zero, List.set_cons_succ]
    refine wpAnyH_ready (rs := [2, 4]) (by kernel_rfl) (by simp) ?_
    refine AllReadyH.cons rfl (fun K hK => ?_) (AllReadyH.cons rfl (fun K hK => ?_) AllReadyH.nil)
    · go_simp
      refine hK.out _ _ ?_ (fun hHeld1 => ?_)
      · exact three_alloc c0 c2 c3 _
      clear hK K hHeld
      refine wpAnyH_ready (rs := [4]) (by kernel_rfl) (by simp) ?_
      refine AllReadyH.cons rfl (fun K hK => ?_) AllReadyH.nil
      go_simp
      go_wp2_with (go_at_call 44; refine (unhide cN (w4.alloc _).drew ((unhide HS5).allocs _).drewT ((unhide HVt).alloc _) ((unhide HB).alloc (by have := (unhide HB).size; omega) _).drew).mono ?_; rintro e wn ⟨k, rfl, hk4, ⟨q0, q1, q2, q3⟩, HBn, hgn⟩; obtain ⟨v2, hv2⟩ := litGrown w4 wn w.heap.size 2 k hk4 (unhide hgn) (by omega))
      refine hK.out _ _ ?_ (fun hHeld2 => ?_)
      · exact ⟨q0, q2, q3⟩
      clear hK K hHeld1
      refine wpAnyH_take (i := 5) (v := ?_) rfl (by kernel_rfl) (by kernel_rfl) (by kernel_rfl) (fun _ _ _ h => h) (Or.inl ⟨by rfl, ?_⟩) (by assumption) ?_
      rotate_left
      · intro W0 hSw; (try dsimp only at hSw); go_simp <;> with_reducible rfl
      try simp only [Act.put, List.setIfInBounds_toArray, List.set_cons_zero, List.set_cons_succ]
      refine wpAnyH_take (i := 11) (v := ?_) rfl (by kernel_rfl) (by kernel_rfl) (by kernel_rfl) (fun _ _ _ h => h) (Or.inl ⟨by rfl, ?_⟩) (by assumption) ?_
      rotate_left
      · intro W0 hSw; (try dsimp only at hSw); go_simp <;> with_reducible rfl
      try simp only [Act.put, List.setIfInBounds_toArray, List.set_cons_zero, List.set_cons_succ]
      refine wpAnyH_ready (rs := [6]) (by kernel_rfl) (by simp) ?_
      refine AllReadyH.cons rfl (fun K hK => ?_) AllReadyH.nil
      go_simp
      refine hK.out _ _ ?_ (fun hHeld3 => ?_)
      · exact ⟨q0, q2, q3⟩
      clear hK K hHeld2
      refine wpAnyH_take (i := 12) (v := ?_) rfl (by kernel_rfl) (by kernel_rfl) (by kernel_rfl) (fun _ _ _ h => h) (Or.inl ⟨by rfl, ?_⟩) (by assumption) ?_
      rotate_left
      · intro W0 hSw; (try dsimp only at hSw); go_simp <;> with_reducible rfl
      try simp only [Act.put, List.setIfInBounds_toArray, List.set_cons_zero, List.set_cons_succ]
      refine wpAnyH_ready (rs := [13]) (by kernel_rfl) (by simp) ?_
      refine AllReadyH.cons rfl (fun K hK => ?_) AllReadyH.nil
      go_simp
      refine hK.out _ _ ?_ (fun hHeld4 => ?_)
      · exact ⟨q0, q2, q3⟩
      clear hK K hHeld3
      refine wpAnyH_ready (rs := [14]) (by kernel_rfl) (by simp) ?_
      refine AllReadyH.cons rfl (fun K hK => ?_) AllReadyH.nil
      go_simp
      refine hK.out _ _ ?_ (fun hHeld5 => ?_)
      · exact ⟨q0, q2, q3⟩
      clear hK K hHeld4
      refine wpAnyH_done (by kernel_rfl) ?_ _
      go_wp2
      exact bodyPost_ret (v := .tuple #[.int .i64 p, .int .i64 v2, .int .i64 r, .int .i64 s]) (by simp [results, Tryd.results13, go_sem]) rfl ⟨p, v2, r, s, rfl, unhide HBn⟩
    · go_simp
      go_wp2_with (go_at_call 44; refine (unhide cN w4.drew (unhide HS5).drewT (unhide HVt) (unhide HB).drew).mono ?_; rintro e wn ⟨k, rfl, hk4, ⟨q0, q1, q2, q3⟩, HBn, hgn⟩; obtain ⟨v2, hv2⟩ := litCell wn 2 k hk4)
      refine hK.out _ _ ?_ (fun hHeld1 => ?_)
      · exact ⟨q0, q2, q3⟩
      clear hK K hHeld
      refine wpAnyH_take (i := 11) (v := ?_) rfl (by kernel_rfl) (by kernel_rfl) (by kernel_rfl) (fun _ _ _ h => h) (Or.inl ⟨by rfl, ?_⟩) (by assumption) ?_
      rotate_left
      · intro W0 hSw; (try dsimp only at hSw); go_simp <;> with_reducible rfl
      try simp only [Act.put, List.setIfInBounds_toArray, List.set_cons_zero, List.set_cons_succ]
      refine wpAnyH_ready (rs := [2]) (by kernel_rfl) (by simp) ?_
      refine AllReadyH.cons rfl (fun K hK => ?_) AllReadyH.nil
      go_simp
      refine hK.out _ _ ?_ (fun hHeld2 => ?_)
      · exact three_more q0 q2 q3 _
      clear hK K hHeld1
      refine wpAnyH_take (i := 5) (v := ?_) rfl (by kernel_rfl) (by kernel_rfl) (by kernel_rfl) (fun _ _ _ h => h) (Or.inl ⟨by rfl, ?_⟩) (by assumption) ?_
      rotate_left
      · intro W0 hSw; (try dsimp only at hSw); go_simp <;> with_reducible rfl
      try simp only [Act.put, List.setIfInBounds_toArray, List.set_cons_zero, List.set_cons_succ]
      refine wpAnyH_ready (rs := [6]) (by kernel_rfl) (by simp) ?_
      refine AllReadyH.cons rfl (fun K hK => ?_) AllReadyH.nil
      go_simp
      refine hK.out _ _ ?_ (fun hHeld3 => ?_)
      · exact three_more q0 q2 q3 _
      clear hK K hHeld2
      refine wpAnyH_take (i := 12) (v := ?_) rfl (by kernel_rfl) (by kernel_rfl) (by kernel_rfl) (fun _ _ _ h => h) (Or.inl ⟨by rfl, ?_⟩) (by assumption) ?_
      rotate_left
      · intro W0 hSw; (try dsimp only at hSw); go_simp <;> with_reducible rfl
      try simp only [Act.put, List.setIfInBounds_toArray, List.set_cons_zero, List.set_cons_succ]
      refine wpAnyH_ready (rs := [13]) (by kernel_rfl) (by simp) ?_
      refine AllReadyH.cons rfl (fun K hK => ?_) AllReadyH.nil
      go_simp
      refine hK.out _ _ ?_ (fun hHeld4 => ?_)
      · exact three_more q0 q2 q3 _
      clear hK K hHeld3
      refine wpAnyH_ready (rs := [14]) (by kernel_rfl) (by simp) ?_
      refine AllReadyH.cons rfl (fun K hK => ?_) AllReadyH.nil
      go_simp
      refine hK.out _ _ ?_ (fun hHeld5 => ?_)
      · exact three_more q0 q2 q3 _
      clear hK K hHeld4
      refine wpAnyH_done (by kernel_rfl) ?_ _
      go_wp2
      exact bodyPost_ret (v := .tuple #[.int .i64 p, .int .i64 v2, .int .i64 r, .int .i64 s]) (by simp [results, Tryd.results13, go_sem]) rfl ⟨p, v2, r, s, rfl, (unhide HBn).alloc (by have := (unhide HBn).size; omega) _⟩
end Go.Proofs.YtijpnnooenpjoaaDoor
