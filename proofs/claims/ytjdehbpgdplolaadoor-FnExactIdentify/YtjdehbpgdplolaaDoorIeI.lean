/- The program's search: the sights ahead of a place. -/
import Derived.Test.YtjdehbpgdplolaaDoorIeH
namespace Go.Proofs.YtjdehbpgdplolaaDoor
open Go.RowKit Go.Sort
set_option linter.unusedVariables false
set_option linter.unusedSimpArgs false

set_option maxHeartbeats 4000000 in
set_option maxRecDepth 100000 in
theorem ahead_any (L : List St) (S : List D3) (ids : List Int) (n : Nat) (ar br : Option Addr) (nl cr dr b N : Nat) (w : World) (hm : S.length ≤ 6) (hn : n ≤ S.length) (hD : Dirs w br S S.length) (hN : NamedAt w b N L ids) :
    Calls Tryd.prog 56 #[.agg #[.slice ar nl cr, .slice br S.length dr, .map (some b)], .int .i64 (n : Int)] w fun e w' => (∃ v, e = .returned v ∧ w'.ownsRow (w.heap.size + 1) 97 7 v (sightsTo L S ids n).length (flatSg (sightsTo L S ids n))) ∧ Below w.heap.size w w' := by
  obtain ⟨i0, hinf, hz0, hz1, hz2⟩ := info_parts info_sight
  have hm8 : 1000 ≤ maxLen := by decide +kernel
  have B0 := below1 w (.cells #[.slice ar nl cr, .slice br S.length dr, .map (some b)] 78)
  have C0 : SrAt (w.alloc (.cells #[.slice ar nl cr, .slice br S.length dr, .map (some b)] 78)) w.heap.size (.slice ar nl cr) (.slice br S.length dr) (.map (some b)) := by refine ⟨?_, ?_, ?_⟩ <;> simp
  have HSn := hide (sights_snoc L S ids)
  have HLE := hide (sights_len L S ids)
  have HSO : Hid (∀ i, sgOf L S ids i = (vA S i, (ids.getD i 0, atV L L.length (ids.getD i 0)))) := hide (fun i => rfl)
  have HNS : Hid (∀ i, ids.getD i 0 ≠ 0 → nameSt L ids i = (ids.getD i 0, atV L L.length (ids.getD i 0))) := hide (fun i h => by unfold nameSt; rw [if_pos h])
  have HNZ : Hid (∀ i, ids.getD i 0 = 0 → nameSt L ids i = (0, 0, 0, 0)) := hide (fun i h => by unfold nameSt; rw [if_neg (by simpa using h)]; rfl)
  have HD := hide (hD.kept B0)
  have HN0 := hide (hN.below B0)
  have HC0 := hide C0
  have HB0 := hide B0
  have hsz : (w.alloc (.cells #[.slice ar nl cr, .slice br S.length dr, .map (some b)] 78)).heap.size = w.heap.size + 1 := by simp
  clear B0 C0 hD hN
  generalize hme : S.length = m at *
  go_enter Tryd.func56, Tryd.ntmps56
  go_wp2_with fail
  generalize hW : w.alloc (.cells #[.slice ar nl cr, .slice br m dr, .map (some b)] 78) = W at *
  clear hW
  go_loopw [5, 10] (fun v kk wr => ∃ i : Nat, i ≤ n ∧ kk = .int .i64 i ∧ Hid (wr.ownsRow (w.heap.size + 1) 97 7 v (sightsTo L S ids i).length (flatSg (sightsTo L S ids i))) ∧ Hid (Below W.heap.size W wr)) (fun _ kk _ => n - (intOf kk).toNat)
  case atStart => exact ⟨0, by omega, rfl, hide (World.ownsRow_nil _ _ _ _), hide (Below.refl _ _)⟩
  case round =>
    obtain ⟨i, hi, rfl, HO, HB⟩ := hrel
    by_cases hin : i < n
    · have hin2 : (i : Int) < (n : Int) := by omega
      have hr := ((unhide HN0).below (unhide HB)).lookOk i (by omega)
      obtain ⟨c0, c1, c2⟩ := (unhide HC0).kept (unhide HB)
      have HSN := hide (unhide HSn i)
      have HSI := hide (unhide HSO i)
      have hns := unhide HNS i
      have hnz := unhide HNZ i
      have hle := unhide HLE i
      generalize ids.getD i 0 = id at *
      by_cases hid : id = 0
      · subst hid
        rw [hnz rfl] at hr
        unfold stV at hr
        simp only [ne_eq, not_true_eq_false, decide_false] at hr
        rw [if_neg (by simp), List.append_nil] at HSN
        have Z := below1 wr (.cells #[.int .i64 0, .int .i64 0, .int .i64 0, .int .i64 0] 46)
        have HO3 : Hid ((wr.alloc (.cells #[.int .i64 0, .int .i64 0, .int .i64 0, .int .i64 0] 46)).ownsRow (w.heap.size + 1) 97 7 u5 (sightsTo L S ids (i + 1)).length (flatSg (sightsTo L S ids (i + 1)))) := hide (by rw [unhide HSN]; exact oKept (unhide HO) Z)
        have HB3 := hide (below_call (unhide HB) Z)
        clear Z HO HB hns hnz
        go_wp2_with fail
        go_roundw
        case rel => first | exact ⟨i + 1, by omega, by go_num, HO3, HB3⟩ | trace_state
        case measure => simp [intOf] <;> omega
      · have hid' : decide (id ≠ 0) = true := by simp [hid]
        rw [hns hid, hid'] at hr
        rw [if_pos hid, unhide HSI] at HSN
        clear HSI hns hnz
        generalize atV L L.length id = q at *
        obtain ⟨q1, q2, q3⟩ := q
        unfold stV at hr
        dsimp only at hr
        have HU : Hid (∀ z, u5.ownBlock = some z → w.heap.size + 1 ≤ z ∧ z < wr.heap.size) := hide (fun z e => (unhide HO).lt z e)
        have Z := below1 wr (.cells #[.int .i64 id, .int .i64 q1, .int .i64 q2, .int .i64 q3] 46)
        have HO2 := hide (oKept (unhide HO) Z)
        have HB2 := hide (below_call (unhide HB) Z)
        have N2 := hide (starAt_new wr (id, q1, q2, q3) 46)
        clear Z HO HB
        go_wp2_with fail
        clear c0 c1 c2 hr
        generalize wr.alloc (.cells #[.int .i64 id, .int .i64 q1, .int .i64 q2, .int .i64 q3] 46) = W2 at HO2 HB2 N2 ⊢
        generalize wr.heap.size = tb at *
        rcases unhide HD with h | ⟨bb, bo, rfl, hbb, hbc⟩
        · omega
        have hst := (hbc i (by omega)).kept hbb (unhide HB2)
        obtain ⟨_, x1, _⟩ := (unhide HC0).kept (unhide HB2)
        clear hbc
        generalize vA S i = sv at *
        obtain ⟨v1, v2, v3⟩ := sv
        obtain ⟨c0, c1, c2⟩ := hst
        obtain ⟨d0, d1, d2, d3⟩ := unhide N2
        simp only [Nat.zero_add] at d0 d1 d2 d3
        simp only at c0 c1 c2
        have him : (i : Int) < (m : Int) := by omega
        refine wp_region_held_drew (S := (fun w' => w'.cell? ⟨w.heap.size, 1, none⟩ = some (.slice (some ⟨bb, bo, none⟩) m dr) ∧ (w'.cell? ⟨bb, bo + i * 3, none⟩ = some (.int .i64 v1) ∧ w'.cell? ⟨bb, bo + i * 3 + 1, none⟩ = some (.int .i64 v2) ∧ w'.cell? ⟨bb, bo + i * 3 + 2, none⟩ = some (.int .i64 v3)) ∧ w'.cell? ⟨tb, 0, none⟩ = some (.int .i64 id) ∧ w'.cell? ⟨tb, 1, none⟩ = some (.int .i64 q1) ∧ w'.cell? ⟨tb, 2, none⟩ = some (.int .i64 q2) ∧ w'.cell? ⟨tb, 3, none⟩ = some (.int .i64 q3))) (by kernel_rfl) ?_ (fun hHeld => ?_)
        · exact ⟨x1, ⟨c0, c1, c2⟩, d0, d1, d2, d3⟩
        refine wpAnyH_take (i := 0) (v := ?_) rfl (by kernel_rfl) (by kernel_rfl) (by kernel_rfl) (fun _ _ _ h => h) (Or.inl ⟨by rfl, ?_⟩) (by assumption) ?_
        rotate_left
        · intro W0 hSw; (try dsimp only at hSw); go_simp <;> with_reducible rfl
        try simp only [Act.put, List.setIfInBounds_toArray, List.set_cons_zero, List.set_cons_succ]
        refine wpAnyH_take (i := 1) (v := ?_) rfl (by kernel_rfl) (by kernel_rfl) (by kernel_rfl) (fun _ _ _ h => h) (Or.inl ⟨by rfl, ?_⟩) (by assumption) ?_
        rotate_left
        · intro W0 hSw; (try dsimp only at hSw); go_simp <;> with_reducible rfl
        try simp only [Act.put, List.setIfInBounds_toArray, List.set_cons_zero, List.set_cons_succ]
        refine wpAnyH_take (i := 2) (v := ?_) rfl (by kernel_rfl) (by kernel_rfl) (by kernel_rfl) (fun _ _ _ h => h) (Or.inl ⟨by rfl, ?_⟩) (by assumption) ?_
        rotate_left
        · intro W0 hSw; (try dsimp only at hSw); go_simp <;> with_reducible rfl
        try simp only [Act.put, List.setIfInBounds_toArray, List.set_cons_zero, List.set_cons_succ]
        refine wpAnyH_take (i := 3) (v := ?_) rfl (by kernel_rfl) (by kernel_rfl) (by kernel_rfl) (fun _ _ _ h => h) (Or.inl ⟨by rfl, ?_⟩) (by assumption) ?_
        rotate_left
        · intro W0 hSw; (try dsimp only at hSw); go_simp <;> with_reducible rfl
        try simp only [Act.put, List.setIfInBounds_toArray, List.set_cons_zero, List.set_cons_succ]
        refine wpAnyH_take (i := 4) (v := ?_) rfl (by kernel_rfl) (by kernel_rfl) (by kernel_rfl) (fun _ _ _ h => h) (Or.inl ⟨by rfl, ?_⟩) (by assumption) ?_
        rotate_left
        · intro W0 hSw; (try dsimp only at hSw); go_simp <;> with_reducible rfl
        try simp only [Act.put, List.setIfInBounds_toArray, List.set_cons_zero, List.set_cons_succ]
        refine wpAnyH_take (i := 5) (v := ?_) rfl (by kernel_rfl) (by kernel_rfl) (by kernel_rfl) (fun _ _ _ h => h) (Or.inl ⟨by rfl, ?_⟩) (by assumption) ?_
        rotate_left
        · intro W0 hSw; (try dsimp only at hSw); go_simp <;> with_reducible rfl
        try simp only [Act.put, List.setIfInBounds_toArray, List.set_cons_zero, List.set_cons_succ]
        refine wpAnyH_take (i := 6) (v := ?_) rfl (by kernel_rfl) (by kernel_rfl) (by kernel_rfl) (fun _ _ _ h => h) (Or.inl ⟨by rfl, ?_⟩) (by assumption) ?_
        rotate_left
        · intro W0 hSw; (try dsimp only at hSw); go_simp <;> with_reducible rfl
        try simp only [Act.put, List.setIfInBounds_toArray, List.set_cons_zero, List.set_cons_succ]
        refine wpAnyH_take (i := 7) (v := ?_) rfl (by kernel_rfl) (by kernel_rfl) (by kernel_rfl) (fun _ _ _ h => h) (Or.inl ⟨by rfl, ?_⟩) (by assumption) ?_
        rotate_left
        · intro W0 hSw; (try dsimp only at hSw); go_simp <;> with_reducible rfl
        try simp only [Act.put, List.setIfInBounds_toArray, List.set_cons_zero, List.set_cons_succ]
        have HK : Hid (∀ W' : World, Below W2.heap.size W2 W' → (W'.cell? ⟨w.heap.size, 1, none⟩ = some (.slice (some ⟨bb, bo, none⟩) m dr) ∧ (W'.cell? ⟨bb, bo + i * 3, none⟩ = some (.int .i64 v1) ∧ W'.cell? ⟨bb, bo + i * 3 + 1, none⟩ = some (.int .i64 v2) ∧ W'.cell? ⟨bb, bo + i * 3 + 2, none⟩ = some (.int .i64 v3)) ∧ W'.cell? ⟨tb, 0, none⟩ = some (.int .i64 id) ∧ W'.cell? ⟨tb, 1, none⟩ = some (.int .i64 q1) ∧ W'.cell? ⟨tb, 2, none⟩ = some (.int .i64 q2) ∧ W'.cell? ⟨tb, 3, none⟩ = some (.int .i64 q3))) := hide (fun W' h => ⟨cellK5 x1 h, ⟨cellK5 c0 h, cellK5 c1 h, cellK5 c2 h⟩, cellK5 d0 h, cellK5 d1 h, cellK5 d2 h, cellK5 d3 h⟩)
        have HOd : Hid (W2.drew.ownsRow (w.heap.size + 1) 97 7 u5 (sightsTo L S ids i).length (flatSg (sightsTo L S ids i))) := HO2
        have HBd := hide ((Below.refl W2.heap.size W2).drew)
        clear c0 c1 c2 d0 d1 d2 d3 x1 N2
        refine wpAnyH_ready (rs := [8]) (by kernel_rfl) (by simp) ?_
        refine AllReadyH.cons rfl (fun K hK => ?_) AllReadyH.nil
        go_simp
        have Z5 := below1 W2.drew (.cells #[.int .i64 v1, .int .i64 v2, .int .i64 v3, .int .i64 id, .int .i64 q1, .int .i64 q2, .int .i64 q3] 97)
        have hown := oKept (unhide HOd) Z5
        have HB5 := hide (below_call (unhide HBd) Z5)
        have hszd : W2.drew.heap.size = W2.heap.size := rfl
        have hbW : W.heap.size ≤ W2.heap.size := (unhide HB2).size
        clear Z5 HOd HBd
        refine hK.out _ _ (unhide HK _ (unhide HB5)) (fun hHeld3 => ?_)
        clear hK K hHeld
        refine wpAnyH_ready (rs := [9]) (by kernel_rfl) (by simp) ?_
        refine AllReadyH.cons rfl (fun K hK => ?_) AllReadyH.nil
        refine step_append7 rfl _ _ 94 rfl (w.heap.size + 1) 97 i0 (.agg #[.int .i64 0, .int .i64 0, .int .i64 0, .int .i64 0, .int .i64 0, .int .i64 0, .int .i64 0]) 7 56 Tryd.underlying94 hinf hz0 hz1 hz2 rfl (by decide) _ _ _ rfl hown ⟨W2.drew.heap.size, 0, none⟩ 1 1 (flatSg [((v1, v2, v3), (id, q1, q2, q3))]) rfl rfl ?d2 (fun u hu => flatSg_cell hu) ?d3 ?d4 ?d5 ?_
        case d2 => first | exact fun j u h => h | exact new_cells _ _ _
        case d3 => omega
        case d4 => omega
        case d5 => first | omega | (simp; omega)
        intro v7 V7 hown7 hgrow7
        have neb : ∀ z, z < w.heap.size + 1 ∨ tb ≤ z → some z ≠ u5.ownBlock := fun z hz e => by have := unhide HU z e.symm; omega
        have HB8 : Hid (Below W.heap.size W V7) := hide ((below_call (unhide HB2) (unhide HB5)).trans ⟨hgrow7.os, hgrow7.tape, hgrow7.output, hgrow7.size, fun z hz => hgrow7.block z (by simp; omega) (neb z (.inl (by omega)))⟩)
        have HO8 : Hid (V7.ownsRow (w.heap.size + 1) 97 7 v7 (sightsTo L S ids (i + 1)).length (flatSg (sightsTo L S ids (i + 1)))) := hide (by rw [unhide HSN, flatSg_app, List.length_append]; exact hown7)
        obtain ⟨k1, ⟨k2, k3, k4⟩, k5, k6, k7, k8⟩ := unhide HK _ (unhide HB5)
        have hbb2 : bb < w.heap.size + 1 := by omega
        have k1' := cellGrown k1 hgrow7 (neb _ (.inl (show w.heap.size < w.heap.size + 1 by omega)))
        have k2' := cellGrown k2 hgrow7 (neb _ (.inl hbb2))
        have k3' := cellGrown k3 hgrow7 (neb _ (.inl hbb2))
        have k4' := cellGrown k4 hgrow7 (neb _ (.inl hbb2))
        have k5' := cellGrown k5 hgrow7 (neb _ (.inr (Nat.le_refl _)))
        have k6' := cellGrown k6 hgrow7 (neb _ (.inr (Nat.le_refl _)))
        have k7' := cellGrown k7 hgrow7 (neb _ (.inr (Nat.le_refl _)))
        have k8' := cellGrown k8 hgrow7 (neb _ (.inr (Nat.le_refl _)))
        clear hown7 hgrow7 hown k1 k2 k3 k4 k5 k6 k7 k8 neb HB5 HB2 HO2
        refine hK.out _ _ ⟨k1', ⟨k2', k3', k4'⟩, k5', k6', k7', k8'⟩ (fun hHeld4 => ?_)
        clear hK K hHeld3
        refine wpAnyH_ready (rs := [10]) (by kernel_rfl) (by simp) ?_
        refine AllReadyH.cons rfl (fun K hK => ?_) AllReadyH.nil
        go_simp
        refine hK.out _ _ ⟨k1', ⟨k2', k3', k4'⟩, k5', k6', k7', k8'⟩ (fun hHeld5 => ?_)
        clear hK K hHeld4
        refine wpAnyH_done (by kernel_rfl) ?_ _
        clear k1' k2' k3' k4' k5' k6' k7' k8' hHeld5 HK
        go_wp2_with fail
        go_roundw
        case rel => first | exact ⟨i + 1, by omega, by go_num, HO8, HB8⟩ | trace_state
        case measure => simp [intOf] <;> omega
    · have hin' : i = n := by omega
      subst hin'
      go_wp2_with fail
      go_ret
      exact ⟨⟨_, rfl, unhide HO⟩, below_call (unhide HB0) (unhide HB)⟩
end Go.Proofs.YtjdehbpgdplolaaDoor
