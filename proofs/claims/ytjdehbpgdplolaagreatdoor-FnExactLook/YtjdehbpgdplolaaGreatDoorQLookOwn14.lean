/- Several texts in one: IeH, IeI, IeJ, IeK, IeL, IeN. -/
import Derived.RangeFuncNested
import Derived.RangeFuncBound
import Derived.RangeFuncCalls
import Derived.RangeFuncLeaves
import Derived.Shelf.Abstract
import Derived.Shelf.RegionOpen
import Derived.WalkKit
import Derived.OwnWalkIn
import Derived.TacticsInMore
import Derived.LoopNIn
import Derived.LoopIn
import Derived.Maps.OwnIn
import Derived.BigRegionIn
import Derived.Test.YtjdehbpgdplolaaGreatDoorQLookOwn13
namespace Go.Proofs.YtjdehbpgdplolaaGreatDoor
open Go.RowKit Go.Sort
set_option linter.unusedVariables false

theorem name_id (L : List St) (ids : List Int) (i : Nat) : (nameSt L ids i).1 = ids.getD i 0 := by
  unfold nameSt
  split
  · rfl
  · rename_i h
    have h0 : ids.getD i 0 = 0 := by simpa using h
    rw [h0]
    rfl
theorem NamedAt.below {w w' : World} {b n : Nat} {L : List St} {ids : List Int} (h : NamedAt w b n L ids) (hB : Below w.heap.size w w') : NamedAt w' b n L ids := h.kept (row := none) ⟨hB.os, hB.tape, hB.output, hB.size, fun k hk _ => hB.block k hk⟩ (by simp)
def SrAt (w : World) (b : Nat) (v0 v1 v2 : Value) : Prop := w.cell? ⟨b, 0, none⟩ = some v0 ∧ w.cell? ⟨b, 1, none⟩ = some v1 ∧ w.cell? ⟨b, 2, none⟩ = some v2
theorem SrAt.kept {w w' : World} {b : Nat} {v0 v1 v2 : Value} (h : SrAt w b v0 v1 v2) (hB : Below w.heap.size w w') : SrAt w' b v0 v1 v2 := ⟨cellK5 h.1 hB, cellK5 h.2.1 hB, cellK5 h.2.2 hB⟩

set_option maxHeartbeats 2000000 in
set_option maxRecDepth 100000 in
theorem ids_any (L : List St) (ids : List Int) (m : Nat) (ar br : Option Addr) (nl cr dr b N : Nat) (w : World) (hm : m ≤ 6) (hN : NamedAt w b N L ids) :
    Calls Tryz.prog 110 #[.agg #[.slice ar nl cr, .slice br m dr, .map (some b)]] w fun e w' => e = .returned (.slice (some ⟨w.heap.size + 1, 0, none⟩) m m) ∧ RowV w' 2 (w.heap.size + 1) (m * 1) (numV ids) ∧ Below w.heap.size w w' := by
  have B0 := below1 w (.cells #[.slice ar nl cr, .slice br m dr, .map (some b)] 158)
  have C0 : SrAt (w.alloc (.cells #[.slice ar nl cr, .slice br m dr, .map (some b)] 158)) w.heap.size (.slice ar nl cr) (.slice br m dr) (.map (some b)) := by refine ⟨?_, ?_, ?_⟩ <;> simp
  have HN := hide (hN.below B0)
  have HC := hide C0
  have HB := hide B0
  have hsz : (w.alloc (.cells #[.slice ar nl cr, .slice br m dr, .map (some b)] 158)).heap.size = w.heap.size + 1 := by simp
  clear B0 C0 hN
  obtain ⟨i0, hi, hz0, hz1, hz2⟩ := info_parts info_i64
  go_enter Tryz.func110, Tryz.ntmps110
  go_wp2_with (at_make; refine wpList_make_full _ rfl _ _ 74 rfl (w.heap.size + 1) 2 i0 (.int .i64 0) 1 Tryz.underlying74 hi hz0 hz1 .i64 .i64 _ _ m rfl rfl rfl rfl (by rw [hz2]; omega) (by unfold maxLen; omega) (by simp) ?_; intro w0 hown0 hgrow0)
  have hzero : ∀ j, j < m * 1 → (madeCells (Value.int .i64 0).cells (m * 1)).toList[j]? = some (.int .i64 0) := by
    intro j hj
    have e : (Value.int .i64 0).cells = #[.int .i64 0] := rfl
    rw [e, toList_madeCells_one]
    simp at hj
    simp [hj]
  have H0 : Hid (RowV w0 2 (w.heap.size + 1) (m * 1) (fun j => if j < 0 then numV ids j else .int .i64 0)) := hide (by
    have h := RowV.made (v := .nilIface) hown0 hzero
    rw [hsz] at h
    exact h.congr (fun j hj => by rw [if_neg (by omega)]))
  have hb0 := below_grownN hgrow0
  have HB0 := hide (below_call (unhide HB) hb0)
  have HN0 := hide ((unhide HN).below hb0)
  have HC0 := hide ((unhide HC).kept hb0)
  clear hown0 hgrow0 hzero hb0 HB HN HC hsz
  go_loopw [11] (fun i wr => ∃ k : Nat, k ≤ m ∧ i = .int .i64 k ∧ Hid (RowV wr 2 (w.heap.size + 1) (m * 1) (fun j => if j < k then numV ids j else .int .i64 0)) ∧ Hid (Below w.heap.size w wr) ∧ Hid (NamedAt wr b N L ids) ∧ Hid (SrAt wr w.heap.size (.slice ar nl cr) (.slice br m dr) (.map (some b)))) (fun i _ => m - (intOf i).toNat)
  case atStart => exact ⟨0, by omega, rfl, H0, HB0, HN0, HC0⟩
  case round =>
    clear H0 HB0 HN0 HC0
    obtain ⟨k, hk, rfl, HO, HB, HN, HC⟩ := hrel
    by_cases hkn : k < m
    · have hr := (unhide HN).look k (by omega)
      have HID : Hid (numV ids k = .int .i64 (nameSt L ids k).1) := hide (by rw [name_id]; rfl)
      generalize nameSt L ids k = q at *
      obtain ⟨q1, q2, q3, q4⟩ := q
      unfold stV at hr
      dsimp only at hr HID
      have hkn2 : (k : Int) < (m : Int) := by omega
      have hfld : ∀ W : World, (Instr.field 85 (.agg #[.int .i64 q1, .int .i64 q2, .int .i64 q3, .int .i64 q4]) 0).run Tryz.prog W = .ok (.int .i64 q1) W := fun W => by kernel_rfl
      have e0 := (unhide HO).cell (j := k) (by omega)
      have f0 := (unhide HO).free k
      rw [if_neg (by omega)] at e0
      have hbN : b ≠ w.heap.size + 1 := fun e => by
        obtain ⟨D, ⟨es, cl, hh, _⟩, _⟩ := unhide HN
        obtain ⟨cur, hc, _⟩ := unhide HO
        rw [e, hc] at hh
        cases hh
      have HO3 : Hid (RowV (wr.setCell ⟨w.heap.size + 1, k, none⟩ (.int .i64 q1)) 2 (w.heap.size + 1) (m * 1) (fun j => if j < k + 1 then numV ids j else .int .i64 0)) := hide (((unhide HO).set k (.int .i64 q1)).congr (fun j hj => by
        by_cases h : j = k
        · rw [if_pos h, if_pos (by omega), h, unhide HID]
        · rw [if_neg h]
          by_cases h2 : j < k
          · rw [if_pos h2, if_pos (by omega)]
          · rw [if_neg h2, if_neg (by omega)]))
      have HB3 := hide ((unhide HB).setCell (show w.heap.size ≤ w.heap.size + 1 by omega) (.int .i64 q1) : Below w.heap.size w (wr.setCell ⟨w.heap.size + 1, k, none⟩ (.int .i64 q1)))
      have HN3 : Hid (NamedAt (wr.setCell ⟨w.heap.size + 1, k, none⟩ (.int .i64 q1)) b N L ids) := hide ((unhide HN).kept (row := some (w.heap.size + 1)) (grownSet (grownRefl wr _) k (.int .i64 q1)) (fun e => hbN (Option.some.inj e)))
      obtain ⟨c0, c1, c2⟩ := unhide HC
      have HC3 : Hid (SrAt (wr.setCell ⟨w.heap.size + 1, k, none⟩ (.int .i64 q1)) w.heap.size (.slice ar nl cr) (.slice br m dr) (.map (some b))) := hide (by
        have hne : some w.heap.size ≠ some (w.heap.size + 1) := fun e => by have := Option.some.inj e; omega
        exact ⟨cellG5 c0 (grownSet (grownRefl wr _) k (.int .i64 q1)) hne, cellG5 c1 (grownSet (grownRefl wr _) k (.int .i64 q1)) hne, cellG5 c2 (grownSet (grownRefl wr _) k (.int .i64 q1)) hne⟩)
      clear HO HB HN HC hbN
      go_wp2_with fail
      go_roundw
      case rel => first | exact ⟨k + 1, by omega, by go_num, HO3, HB3, HN3, HC3⟩ | trace_state
      case measure => simp [intOf]; omega
    · have hkn' : k = m := by omega
      subst hkn'
      go_wp2_with fail
      go_ret
      exact ⟨rfl, (unhide HO).congr (fun j hj => if_pos (by omega)), unhide HB⟩
end Go.Proofs.YtjdehbpgdplolaaGreatDoor

namespace Go.Proofs.YtjdehbpgdplolaaGreatDoor
open Go.RowKit Go.Sort
set_option linter.unusedVariables false
set_option linter.unusedSimpArgs false

set_option maxHeartbeats 4000000 in
set_option maxRecDepth 100000 in
theorem ahead_any (L : List St) (S : List D3) (ids : List Int) (n : Nat) (ar br : Option Addr) (nl cr dr b N : Nat) (w : World) (hm : S.length ≤ 6) (hn : n ≤ S.length) (hD : Dirs w br S S.length) (hN : NamedAt w b N L ids) :
    Calls Tryz.prog 111 #[.agg #[.slice ar nl cr, .slice br S.length dr, .map (some b)], .int .i64 (n : Int)] w fun e w' => (∃ v, e = .returned v ∧ w'.ownsRow (w.heap.size + 1) 161 7 v (sightsTo L S ids n).length (flatSg (sightsTo L S ids n))) ∧ Below w.heap.size w w' := by
  obtain ⟨i0, hinf, hz0, hz1, hz2⟩ := info_parts info_sight
  have hm8 : 1000 ≤ maxLen := by decide +kernel
  have B0 := below1 w (.cells #[.slice ar nl cr, .slice br S.length dr, .map (some b)] 158)
  have C0 : SrAt (w.alloc (.cells #[.slice ar nl cr, .slice br S.length dr, .map (some b)] 158)) w.heap.size (.slice ar nl cr) (.slice br S.length dr) (.map (some b)) := by refine ⟨?_, ?_, ?_⟩ <;> simp
  have HSn := hide (sights_snoc L S ids)
  have HLE := hide (sights_len L S ids)
  have HSO : Hid (∀ i, sgOf L S ids i = (vA S i, (ids.getD i 0, atV L L.length (ids.getD i 0)))) := hide (fun i => rfl)
  have HNS : Hid (∀ i, ids.getD i 0 ≠ 0 → nameSt L ids i = (ids.getD i 0, atV L L.length (ids.getD i 0))) := hide (fun i h => by unfold nameSt; rw [if_pos h])
  have HNZ : Hid (∀ i, ids.getD i 0 = 0 → nameSt L ids i = (0, 0, 0, 0)) := hide (fun i h => by unfold nameSt; rw [if_neg (by simpa using h)]; rfl)
  have HD := hide (hD.kept B0)
  have HN0 := hide (hN.below B0)
  have HC0 := hide C0
  have HB0 := hide B0
  have hsz : (w.alloc (.cells #[.slice ar nl cr, .slice br S.length dr, .map (some b)] 158)).heap.size = w.heap.size + 1 := by simp
  clear B0 C0 hD hN
  generalize hme : S.length = m at *
  go_enter Tryz.func111, Tryz.ntmps111
  go_wp2_with fail
  generalize hW : w.alloc (.cells #[.slice ar nl cr, .slice br m dr, .map (some b)] 158) = W at *
  clear hW
  go_loopw [5, 10] (fun v kk wr => ∃ i : Nat, i ≤ n ∧ kk = .int .i64 i ∧ Hid (wr.ownsRow (w.heap.size + 1) 161 7 v (sightsTo L S ids i).length (flatSg (sightsTo L S ids i))) ∧ Hid (Below W.heap.size W wr)) (fun _ kk _ => n - (intOf kk).toNat)
  case atStart => exact ⟨0, by omega, rfl, hide (World.ownsRow_nil _ _ _ _), hide (Below.refl _ _)⟩
  case round =>
    obtain ⟨i, hi, rfl, HO, HB⟩ := hrel
    by_cases hin : i < n
    · have hin2 : (i : Int) < (n : Int) := by omega
      have hr := ((unhide HN0).below (unhide HB)).lookOk i (by omega)
      obtain ⟨c0, c1, c2⟩ := (unhide HC0).kept (unhide HB)
      have HSN := hide (unhide HSn i)
      have HSI := hide (unhide HSO i)
      have hns := unhide HNS i
      have hnz := unhide HNZ i
      have hle := unhide HLE i
      generalize ids.getD i 0 = id at *
      by_cases hid : id = 0
      · subst hid
        rw [hnz rfl] at hr
        unfold stV at hr
        simp only [ne_eq, not_true_eq_false, decide_false] at hr
        rw [if_neg (by simp), List.append_nil] at HSN
        have Z := below1 wr (.cells #[.int .i64 0, .int .i64 0, .int .i64 0, .int .i64 0] 85)
        have HO3 : Hid ((wr.alloc (.cells #[.int .i64 0, .int .i64 0, .int .i64 0, .int .i64 0] 85)).ownsRow (w.heap.size + 1) 161 7 u5 (sightsTo L S ids (i + 1)).length (flatSg (sightsTo L S ids (i + 1)))) := hide (by rw [unhide HSN]; exact oKept (unhide HO) Z)
        have HB3 := hide (below_call (unhide HB) Z)
        clear Z HO HB hns hnz
        go_wp2_with fail
        go_roundw
        case rel => first | exact ⟨i + 1, by omega, by go_num, HO3, HB3⟩ | trace_state
        case measure => simp [intOf] <;> omega
      · have hid' : decide (id ≠ 0) = true := by simp [hid]
        rw [hns hid, hid'] at hr
        rw [if_pos hid, unhide HSI] at HSN
        clear HSI hns hnz
        generalize atV L L.length id = q at *
        obtain ⟨q1, q2, q3⟩ := q
        unfold stV at hr
        dsimp only at hr
        have HU : Hid (∀ z, u5.ownBlock = some z → w.heap.size + 1 ≤ z ∧ z < wr.heap.size) := hide (fun z e => (unhide HO).lt z e)
        have Z := below1 wr (.cells #[.int .i64 id, .int .i64 q1, .int .i64 q2, .int .i64 q3] 85)
        have HO2 := hide (oKept (unhide HO) Z)
        have HB2 := hide (below_call (unhide HB) Z)
        have N2 := hide (starAt_new wr (id, q1, q2, q3) 85)
        clear Z HO HB
        go_wp2_with fail
        clear c0 c1 c2 hr
        generalize wr.alloc (.cells #[.int .i64 id, .int .i64 q1, .int .i64 q2, .int .i64 q3] 85) = W2 at HO2 HB2 N2 ⊢
        generalize wr.heap.size = tb at *
        rcases unhide HD with h | ⟨bb, bo, rfl, hbb, hbc⟩
        · omega
        have hst := (hbc i (by omega)).kept hbb (unhide HB2)
        obtain ⟨_, x1, _⟩ := (unhide HC0).kept (unhide HB2)
        clear hbc
        generalize vA S i = sv at *
        obtain ⟨v1, v2, v3⟩ := sv
        obtain ⟨c0, c1, c2⟩ := hst
        obtain ⟨d0, d1, d2, d3⟩ := unhide N2
        simp only [Nat.zero_add] at d0 d1 d2 d3
        simp only at c0 c1 c2
        have him : (i : Int) < (m : Int) := by omega
        refine wp_region_held_drew (S := (fun w' => w'.cell? ⟨w.heap.size, 1, none⟩ = some (.slice (some ⟨bb, bo, none⟩) m dr) ∧ (w'.cell? ⟨bb, bo + i * 3, none⟩ = some (.int .i64 v1) ∧ w'.cell? ⟨bb, bo + i * 3 + 1, none⟩ = some (.int .i64 v2) ∧ w'.cell? ⟨bb, bo + i * 3 + 2, none⟩ = some (.int .i64 v3)) ∧ w'.cell? ⟨tb, 0, none⟩ = some (.int .i64 id) ∧ w'.cell? ⟨tb, 1, none⟩ = some (.int .i64 q1) ∧ w'.cell? ⟨tb, 2, none⟩ = some (.int .i64 q2) ∧ w'.cell? ⟨tb, 3, none⟩ = some (.int .i64 q3))) (by kernel_rfl) ?_ (fun hHeld => ?_)
        · exact ⟨x1, ⟨c0, c1, c2⟩, d0, d1, d2, d3⟩
        refine wpAnyH_take (i := 0) (v := ?_) rfl (by kernel_rfl) (by kernel_rfl) (by kernel_rfl) (fun _ _ _ h => h) (Or.inl ⟨by rfl, ?_⟩) (by assumption) ?_
        rotate_left
        · intro W0 hSw; (try dsimp only at hSw); go_simp <;> with_reducible rfl
        try simp only [Act.put, List.setIfInBounds_toArray, List.set_cons_zero, List.set_cons_succ]
        refine wpAnyH_take (i := 1) (v := ?_) rfl (by kernel_rfl) (by kernel_rfl) (by kernel_rfl) (fun _ _ _ h => h) (Or.inl ⟨by rfl, ?_⟩) (by assumption) ?_
        rotate_left
        · intro W0 hSw; (try dsimp only at hSw); go_simp <;> with_reducible rfl
        try simp only [Act.put, List.setIfInBounds_toArray, List.set_cons_zero, List.set_cons_succ]
        refine wpAnyH_take (i := 2) (v := ?_) rfl (by kernel_rfl) (by kernel_rfl) (by kernel_rfl) (fun _ _ _ h => h) (Or.inl ⟨by rfl, ?_⟩) (by assumption) ?_
        rotate_left
        · intro W0 hSw; (try dsimp only at hSw); go_simp <;> with_reducible rfl
        try simp only [Act.put, List.setIfInBounds_toArray, List.set_cons_zero, List.set_cons_succ]
        refine wpAnyH_take (i := 3) (v := ?_) rfl (by kernel_rfl) (by kernel_rfl) (by kernel_rfl) (fun _ _ _ h => h) (Or.inl ⟨by rfl, ?_⟩) (by assumption) ?_
        rotate_left
        · intro W0 hSw; (try dsimp only at hSw); go_simp <;> with_reducible rfl
        try simp only [Act.put, List.setIfInBounds_toArray, List.set_cons_zero, List.set_cons_succ]
        refine wpAnyH_take (i := 4) (v := ?_) rfl (by kernel_rfl) (by kernel_rfl) (by kernel_rfl) (fun _ _ _ h => h) (Or.inl ⟨by rfl, ?_⟩) (by assumption) ?_
        rotate_left
        · intro W0 hSw; (try dsimp only at hSw); go_simp <;> with_reducible rfl
        try simp only [Act.put, List.setIfInBounds_toArray, List.set_cons_zero, List.set_cons_succ]
        refine wpAnyH_take (i := 5) (v := ?_) rfl (by kernel_rfl) (by kernel_rfl) (by kernel_rfl) (fun _ _ _ h => h) (Or.inl ⟨by rfl, ?_⟩) (by assumption) ?_
        rotate_left
        · intro W0 hSw; (try dsimp only at hSw); go_simp <;> with_reducible rfl
        try simp only [Act.put, List.setIfInBounds_toArray, List.set_cons_zero, List.set_cons_succ]
        refine wpAnyH_take (i := 6) (v := ?_) rfl (by kernel_rfl) (by kernel_rfl) (by kernel_rfl) (fun _ _ _ h => h) (Or.inl ⟨by rfl, ?_⟩) (by assumption) ?_
        rotate_left
        · intro W0 hSw; (try dsimp only at hSw); go_simp <;> with_reducible rfl
        try simp only [Act.put, List.setIfInBounds_toArray, List.set_cons_zero, List.set_cons_succ]
        refine wpAnyH_take (i := 7) (v := ?_) rfl (by kernel_rfl) (by kernel_rfl) (by kernel_rfl) (fun _ _ _ h => h) (Or.inl ⟨by rfl, ?_⟩) (by assumption) ?_
        rotate_left
        · intro W0 hSw; (try dsimp only at hSw); go_simp <;> with_reducible rfl
        try simp only [Act.put, List.setIfInBounds_toArray, List.set_cons_zero, List.set_cons_succ]
        have HK : Hid (∀ W' : World, Below W2.heap.size W2 W' → (W'.cell? ⟨w.heap.size, 1, none⟩ = some (.slice (some ⟨bb, bo, none⟩) m dr) ∧ (W'.cell? ⟨bb, bo + i * 3, none⟩ = some (.int .i64 v1) ∧ W'.cell? ⟨bb, bo + i * 3 + 1, none⟩ = some (.int .i64 v2) ∧ W'.cell? ⟨bb, bo + i * 3 + 2, none⟩ = some (.int .i64 v3)) ∧ W'.cell? ⟨tb, 0, none⟩ = some (.int .i64 id) ∧ W'.cell? ⟨tb, 1, none⟩ = some (.int .i64 q1) ∧ W'.cell? ⟨tb, 2, none⟩ = some (.int .i64 q2) ∧ W'.cell? ⟨tb, 3, none⟩ = some (.int .i64 q3))) := hide (fun W' h => ⟨cellK5 x1 h, ⟨cellK5 c0 h, cellK5 c1 h, cellK5 c2 h⟩, cellK5 d0 h, cellK5 d1 h, cellK5 d2 h, cellK5 d3 h⟩)
        have HOd : Hid (W2.drew.ownsRow (w.heap.size + 1) 161 7 u5 (sightsTo L S ids i).length (flatSg (sightsTo L S ids i))) := HO2
        have HBd := hide ((Below.refl W2.heap.size W2).drew)
        clear c0 c1 c2 d0 d1 d2 d3 x1 N2
        refine wpAnyH_ready (rs := [8]) (by kernel_rfl) (by simp) ?_
        refine AllReadyH.cons rfl (fun K hK => ?_) AllReadyH.nil
        go_simp
        have Z5 := below1 W2.drew (.cells #[.int .i64 v1, .int .i64 v2, .int .i64 v3, .int .i64 id, .int .i64 q1, .int .i64 q2, .int .i64 q3] 161)
        have hown := oKept (unhide HOd) Z5
        have HB5 := hide (below_call (unhide HBd) Z5)
        have hszd : W2.drew.heap.size = W2.heap.size := rfl
        have hbW : W.heap.size ≤ W2.heap.size := (unhide HB2).size
        clear Z5 HOd HBd
        refine hK.out _ _ (unhide HK _ (unhide HB5)) (fun hHeld3 => ?_)
        clear hK K hHeld
        refine wpAnyH_ready (rs := [9]) (by kernel_rfl) (by simp) ?_
        refine AllReadyH.cons rfl (fun K hK => ?_) AllReadyH.nil
        refine step_append7 rfl _ _ 137 rfl (w.heap.size + 1) 161 i0 (.agg #[.int .i64 0, .int .i64 0, .int .i64 0, .int .i64 0, .int .i64 0, .int .i64 0, .int .i64 0]) 7 56 Tryz.underlying137 hinf hz0 hz1 hz2 rfl (by decide) _ _ _ rfl hown ⟨W2.drew.heap.size, 0, none⟩ 1 1 (flatSg [((v1, v2, v3), (id, q1, q2, q3))]) rfl rfl ?d2 (fun u hu => flatSg_cell hu) ?d3 ?d4 ?d5 ?_
        case d2 => first | exact fun j u h => h | exact new_cells _ _ _
        case d3 => omega
        case d4 => omega
        case d5 => first | omega | (simp; omega)
        intro v7 V7 hown7 hgrow7
        have neb : ∀ z, z < w.heap.size + 1 ∨ tb ≤ z → some z ≠ u5.ownBlock := fun z hz e => by have := unhide HU z e.symm; omega
        have HB8 : Hid (Below W.heap.size W V7) := hide ((below_call (unhide HB2) (unhide HB5)).trans ⟨hgrow7.os, hgrow7.tape, hgrow7.output, hgrow7.size, fun z hz => hgrow7.block z (by simp; omega) (neb z (.inl (by omega)))⟩)
        have HO8 : Hid (V7.ownsRow (w.heap.size + 1) 161 7 v7 (sightsTo L S ids (i + 1)).length (flatSg (sightsTo L S ids (i + 1)))) := hide (by rw [unhide HSN, flatSg_app, List.length_append]; exact hown7)
        obtain ⟨k1, ⟨k2, k3, k4⟩, k5, k6, k7, k8⟩ := unhide HK _ (unhide HB5)
        have hbb2 : bb < w.heap.size + 1 := by omega
        have k1' := cellGrown k1 hgrow7 (neb _ (.inl (show w.heap.size < w.heap.size + 1 by omega)))
        have k2' := cellGrown k2 hgrow7 (neb _ (.inl hbb2))
        have k3' := cellGrown k3 hgrow7 (neb _ (.inl hbb2))
        have k4' := cellGrown k4 hgrow7 (neb _ (.inl hbb2))
        have k5' := cellGrown k5 hgrow7 (neb _ (.inr (Nat.le_refl _)))
        have k6' := cellGrown k6 hgrow7 (neb _ (.inr (Nat.le_refl _)))
        have k7' := cellGrown k7 hgrow7 (neb _ (.inr (Nat.le_refl _)))
        have k8' := cellGrown k8 hgrow7 (neb _ (.inr (Nat.le_refl _)))
        clear hown7 hgrow7 hown k1 k2 k3 k4 k5 k6 k7 k8 neb HB5 HB2 HO2
        refine hK.out _ _ ⟨k1', ⟨k2', k3', k4'⟩, k5', k6', k7', k8'⟩ (fun hHeld4 => ?_)
        clear hK K hHeld3
        refine wpAnyH_ready (rs := [10]) (by kernel_rfl) (by simp) ?_
        refine AllReadyH.cons rfl (fun K hK => ?_) AllReadyH.nil
        go_simp
        refine hK.out _ _ ⟨k1', ⟨k2', k3', k4'⟩, k5', k6', k7', k8'⟩ (fun hHeld5 => ?_)
        clear hK K hHeld4
        refine wpAnyH_done (by kernel_rfl) ?_ _
        clear k1' k2' k3' k4' k5' k6' k7' k8' hHeld5 HK
        go_wp2_with fail
        go_roundw
        case rel => first | exact ⟨i + 1, by omega, by go_num, HO8, HB8⟩ | trace_state
        case measure => simp [intOf] <;> omega
    · have hin' : i = n := by omega
      subst hin'
      go_wp2_with fail
      go_ret
      exact ⟨⟨_, rfl, unhide HO⟩, below_call (unhide HB0) (unhide HB)⟩
end Go.Proofs.YtjdehbpgdplolaaGreatDoor

namespace Go.Proofs.YtjdehbpgdplolaaGreatDoor
open Go.RowKit Go.Sort
set_option linter.unusedVariables false

theorem cntN_take (ids : List Int) {i : Nat} (hi : i < ids.length) : cntN (ids.take (i + 1)) = cntN (ids.take i) + if ids.getD i 0 ≠ 0 then 1 else 0 := by
  rw [List.take_succ_eq_append_getElem hi, cntN_snoc]
  have e : ids.getD i 0 = ids[i] := by rw [List.getD_eq_getElem?_getD, List.getElem?_eq_getElem hi]; rfl
  rw [e]
set_option maxHeartbeats 1000000 in
set_option maxRecDepth 100000 in
theorem countNamed_any (ids : List Int) (a : Option Addr) (c : Nat) (w : World) (hk : ids.length ≤ 1048576) (hI : Nums w a ids ids.length) :
    Calls Tryz.prog 77 #[.slice a ids.length c] w fun e w' => e = .returned (.int .i64 (cntN ids : Int)) ∧ w' = w := by
  have HT : Hid (cntN (ids.take ids.length) = cntN ids) := hide (by rw [List.take_length])
  rcases hI with h0 | ⟨b, o, rfl, hb, hc⟩
  · have e : ids = [] := List.eq_nil_of_length_eq_zero h0
    subst e
    go_enter Tryz.func77, Tryz.ntmps77
    go_wp2_with fail
    refine wp_loop_rounds 1 ?_
    rw [rounds_succ]
    go_wp2_with fail
    go_ret
    exact ⟨rfl, rfl⟩
  have HC := hide hc
  clear hc
  go_enter Tryz.func77, Tryz.ntmps77
  go_wp2_with fail
  go_loop [3, 8] (fun q i => ∃ k : Nat, k ≤ ids.length ∧ i = .int .i64 k ∧ q = .int .i64 (cntN (ids.take k) : Int)) (fun _ i => ids.length - (intOf i).toNat)
  case atStart => exact ⟨0, Nat.zero_le _, rfl, rfl⟩
  case round =>
    obtain ⟨k, hkl, rfl, rfl⟩ := hrel
    by_cases hkn : k < ids.length
    · have c0 := unhide HC k hkn
      have HS := hide (cntN_take ids hkn)
      have hle := cntN_le (ids.take k)
      rw [List.length_take] at hle
      have hle2 : (cntN (ids.take k) : Int) ≤ 1048576 := by omega
      have hkn2 : (k : Int) < (ids.length : Int) := by omega
      generalize ids.getD k 0 = z at *
      by_cases hz : z = 0
      · have HS2 : Hid (cntN (ids.take (k + 1)) = cntN (ids.take k)) := hide (by rw [unhide HS, if_neg (by simpa using hz)]; rfl)
        subst hz
        go_wp2_with fail
        go_round
        case rel => exact ⟨k + 1, by omega, by go_num, by rw [unhide HS2]⟩
        case measure => simp [intOf]; omega
      · have HS2 : Hid (cntN (ids.take (k + 1)) = cntN (ids.take k) + 1) := hide (by rw [unhide HS, if_pos hz])
        go_wp2_with fail
        go_round
        case rel => exact ⟨k + 1, by omega, by go_num, by rw [unhide HS2]; go_num⟩
        case measure => simp [intOf]; omega
    · obtain rfl : k = ids.length := by omega
      go_wp2_with fail
      go_ret
      exact ⟨rfl, rfl⟩
/-- what the program's 'greatest' holds behind all namings -/
def greatR (L : List St) (S : List D3) : List Int × Nat := (allN (fitF L S) (L.map (·.1)) S.length []).foldl stepG ([], 0)
theorem great_same (L : List St) (S : List D3) : idIds L S = (if (greatR L S).2 = 1 then (greatR L S).1 else []) ∧ idCnt L S = (if (greatR L S).2 = 1 then (cntN (greatR L S).1 : Int) else 0) ∧ idCode L S = (if (greatR L S).2 = 0 then 6 else if 1 < (greatR L S).2 then 11 else 0) := by
  have h := sameN_all (fitF L S) (L.map (·.1)) S.length
  unfold idIds idCnt idCode
  change SameN (idR L S) (greatR L S) at h
  rcases h with ⟨h1, h2, h3⟩ | ⟨h1, h2, h3, h4, h5⟩
  · rw [h1, h3]
    exact ⟨rfl, rfl, rfl⟩
  · rw [h4]
    refine ⟨?_, ?_, rfl⟩
    · split
      · rename_i e; exact h5 e
      · rfl
    · split
      · rw [h3]
      · rfl
end Go.Proofs.YtjdehbpgdplolaaGreatDoor

namespace Go.Proofs.YtjdehbpgdplolaaGreatDoor
open Go.RowKit Go.Sort Go.Shelf
set_option linter.unusedVariables false
attribute [local go_sem] Oper.semAt_some

/-- a naming as it is handed to yield: the numbers, and where they lie -/
abbrev Nam := List Int × Nat
def namV (x : Nam) : Value := .slice (some ⟨x.2, 0, none⟩) x.1.length x.1.length
def namH (x : Nam) (w : World) : Prop := RowV w 2 x.2 (x.1.length * 1) (numV x.1)
/-- what a round keeps: all cells and maps but two boxes -/
structure KpX (p q : Nat) (W W' : World) : Prop where
  size : W.heap.size ≤ W'.heap.size
  os : W'.os = W.os
  tape : W'.tape = W.tape
  output : W'.output = W.output
  same : ∀ k o, W.heap[k]? = some o → (o.isCells = true ∨ o.isWalk = true) → k ≠ p → k ≠ q → W'.heap[k]? = some o
theorem KpX.trans {p q : Nat} {A B C : World} (h : KpX p q A B) (k : KpX p q B C) : KpX p q A C := ⟨Nat.le_trans h.size k.size, k.os.trans h.os, k.tape.trans h.tape, k.output.trans h.output, fun i o hi ho h1 h2 => k.same i o (h.same i o hi ho h1 h2) ho h1 h2⟩
theorem KpX.of_below {p q : Nat} {A B : World} (h : Below A.heap.size A B) : KpX p q A B := ⟨h.size, h.os, h.tape, h.output, fun i o hi _ _ _ => by rw [h.block i (Array.getElem?_eq_some_iff.1 hi).1]; exact hi⟩
/-- a round at every naming that lies there -/
def RoundOk (l p q : Nat) (J : List (List Int) → World → Prop) : Prop := ∀ m pre (x : Nam) W, J pre W → (∃ W0, J pre W0 ∧ W0.heap.size ≤ x.2) → namH x W → x.1.length ≤ 6 → YieldAt Fence.wide m Tryz.prog l #[namV x] W fun e W' => e = .returned (.bool true) ∧ J (pre ++ [x.1]) W' ∧ KpX p q W W'

set_option maxHeartbeats 4000000 in
set_option maxRecDepth 100000 in
theorem goOn_leaf (L : List St) (S : List D3) (ids : List Int) (ar br : Option Addr) (cr dr b N l p q n : Nat) (J : List (List Int) → World → Prop) (pre : List (List Int)) (w : World) (hm : S.length ≤ 6) (hl : ids.length = S.length) (hN : NamedAt w b N L ids)
    (hJ : J pre w) (hJa : ∀ W W', J pre W → Below W.heap.size W W' → J pre W') (hY : RoundOk l p q J) :
    CallsIn Fence.wide n Tryz.prog 107 #[.agg #[.slice ar L.length cr, .slice br S.length dr, .map (some b)], .int .i64 (ids.length : Int), .func (.yield l) #[] #[]] w fun e W' => e = .returned (.bool true) ∧ J (pre ++ [ids]) W' ∧ KpX p q w W' := by
  have B0 := below1 w (.cells #[.slice ar L.length cr, .slice br S.length dr, .map (some b)] 158)
  have HB := hide B0
  have HJ := hide (hJa _ _ hJ B0)
  have cI := hide (fun (k : Nat) => callsIn_wide (n := k) |>.2 (ids_any L ids S.length ar br L.length cr dr b N _ hm (hN.below B0)))
  have HY := hide hY
  have HJa := hide hJa
  clear B0 hN hJ hY hJa
  rw [hl]
  refine callsIn_of_wp Tryz.func107 rfl trivial ?_ rfl
  simp only [Tryz.ntmps107, List.size_toArray, List.length_cons, List.length_nil, Nat.reduceAdd, Nat.reduceSub, Array.replicate_succ, Array.replicate_zero, List.push_toArray, List.append_toArray, List.nil_append, List.cons_append]
  gi_wp2
  refine ⟨trivial, fun h => (by cases h), ?_⟩
  refine (unhide cI _).mono ?_
  rintro e w1 ⟨rfl, hrow, hx⟩
  have hsz : (w.alloc (.cells #[.slice ar L.length cr, .slice br S.length dr, .map (some b)] 158)).heap.size = w.heap.size + 1 := by simp
  rw [hsz] at hrow ⊢
  have HY1 := unhide HY (n - 1) pre (ids, w.heap.size + 1 + 1) w1 (unhide HJa _ _ (unhide HJ) hx) ⟨_, unhide HJ, by simp⟩ (by unfold namH; dsimp only; rw [hl]; exact hrow) (by dsimp only; omega)
  unfold namV at HY1
  dsimp only at HY1
  rw [hl] at HY1
  have HK := hide (KpX.of_below (p := p) (q := q) (below_call (unhide HB) hx))
  clear hrow hx hsz cI HY HJa HJ HB
  obtain ⟨fn, tmps, assign, body, hy, hR⟩ := HY1
  gi_wp2
  refine ⟨fun h => (by cases h), ?_⟩
  refine hR.mono ?_
  rintro e w2 ⟨rfl, hJ2, hk2⟩
  have HJ2 := hide hJ2
  have HK2 := hide ((unhide HK).trans hk2)
  clear hJ2 hk2 hR hy HK
  gi_wp2
  go_ret
  exact ⟨rfl, unhide HJ2, unhide HK2⟩
end Go.Proofs.YtjdehbpgdplolaaGreatDoor

namespace Go.Proofs.YtjdehbpgdplolaaGreatDoor
open Go.RowKit Go.Sort
set_option linter.unusedVariables false

theorem key_ne {i j : Nat} (h : i ≠ j) : (Lit.int .i64 (i : Int)) ≠ Lit.int .i64 (j : Int) := fun e => h (by injection e with _ e; omega)
theorem getD_snoc_lt (ids : List Int) (a : Int) {i : Nat} (h : i < ids.length) : (ids ++ [a]).getD i 0 = ids.getD i 0 := by rw [List.getD_eq_getElem?_getD, List.getD_eq_getElem?_getD, List.getElem?_append_left h]
theorem getD_snoc_at (ids : List Int) (a : Int) : (ids ++ [a]).getD ids.length 0 = a := by rw [List.getD_eq_getElem?_getD, List.getElem?_append_right (Nat.le_refl _), Nat.sub_self]; rfl
theorem getD_snoc_gt (ids : List Int) (a : Int) {i : Nat} (h : ids.length < i) : (ids ++ [a]).getD i 0 = 0 := by
  rw [List.getD_eq_getElem?_getD, List.getElem?_append_right (by omega), List.getElem?_eq_none (by simp; omega)]
  rfl
theorem getD_end (ids : List Int) {i : Nat} (h : ids.length ≤ i) : ids.getD i 0 = 0 := by rw [List.getD_eq_getElem?_getD, List.getElem?_eq_none h]; rfl
theorem getD_snoc0 (ids : List Int) (i : Nat) : (ids ++ [(0 : Int)]).getD i 0 = ids.getD i 0 := by
  rcases Nat.lt_trichotomy i ids.length with h | h | h
  · exact getD_snoc_lt ids 0 h
  · rw [h, getD_snoc_at, getD_end ids (Nat.le_refl _)]
  · rw [getD_snoc_gt ids 0 h, getD_end ids (by omega)]
theorem MapIs.snoc0 {D : DataW Unit} {L : List St} {ids : List Int} (h : MapIs D L ids) : MapIs D L (ids ++ [0]) := fun i hi => by
  have h1 := h i hi
  unfold nameSt at h1 ⊢
  rw [getD_snoc0]
  exact h1
theorem MapIs.put {D : DataW Unit} {L : List St} {ids : List Int} {a : Int} (h : MapIs D L ids) (hm : Maps.IsMap D) (ha : a ≠ 0) : MapIs (D.put (.int .i64 (ids.length : Int)) (starD (a, atV L L.length a))) L (ids ++ [a]) := fun i hi => by
  by_cases e : i = ids.length
  · subst e
    rw [Maps.has_put_same hm (by trivial), Maps.atKey_put_same hm (by trivial)]
    unfold nameSt
    rw [getD_snoc_at, if_pos ha]
    exact ⟨by simp [ha], rfl⟩
  · rw [Maps.has_put_other (key_ne e), Maps.atKey_put_other (key_ne e)]
    have h1 := h i hi
    unfold nameSt at h1 ⊢
    have e2 : (ids ++ [a]).getD i 0 = ids.getD i 0 := by
      rcases Nat.lt_or_gt_of_ne e with h2 | h2
      · exact getD_snoc_lt ids a h2
      · rw [getD_snoc_gt ids a h2, getD_end ids (by omega)]
    rw [e2]
    exact h1
theorem MapIs.del {D : DataW Unit} {L : List St} {ids : List Int} {a : Int} (h : MapIs D L (ids ++ [a])) : MapIs (D.del (.int .i64 (ids.length : Int))) L ids := fun i hi => by
  by_cases e : i = ids.length
  · subst e
    rw [Maps.has_del_same, Maps.atKey_del_same]
    unfold nameSt
    rw [getD_end ids (Nat.le_refl _), if_neg (by simp)]
    exact ⟨by simp, rfl⟩
  · rw [Maps.has_del_other (key_ne e), Maps.atKey_del_other (key_ne e)]
    have h1 := h i hi
    unfold nameSt at h1 ⊢
    have e2 : (ids ++ [a]).getD i 0 = ids.getD i 0 := by
      rcases Nat.lt_or_gt_of_ne e with h2 | h2
      · exact getD_snoc_lt ids a h2
      · rw [getD_snoc_gt ids a h2, getD_end ids (by omega)]
    rw [e2] at h1
    exact h1
/-- the namings of a node, the first i stars tried -/
def partN (F : List Int → Int → Bool) (A : List Int) (r : Nat) (ids : List Int) (i : Nat) : List (List Int) := ((A.take i).filter (F ids)).flatMap (fun a => allN F A r (ids ++ [a]))
theorem partN_zero (F : List Int → Int → Bool) (A : List Int) (r : Nat) (ids : List Int) : partN F A r ids 0 = [] := rfl
theorem partN_succ (F : List Int → Int → Bool) (A : List Int) (r : Nat) (ids : List Int) {i : Nat} (hi : i < A.length) : partN F A r ids (i + 1) = partN F A r ids i ++ if F ids (A.getD i 0) = true then allN F A r (ids ++ [A.getD i 0]) else [] := by
  unfold partN
  rw [List.take_succ_eq_append_getElem hi, List.filter_append, List.flatMap_append]
  have e : A.getD i 0 = A[i] := by rw [List.getD_eq_getElem?_getD, List.getElem?_eq_getElem hi]; rfl
  rw [e]
  congr 1
  cases h : F ids A[i] <;> simp [h]
theorem allN_node (F : List Int → Int → Bool) (A : List Int) (r : Nat) (ids : List Int) : allN F A (r + 1) ids = partN F A r ids A.length ++ allN F A r (ids ++ [0]) := by
  unfold partN
  rw [List.take_length]
  rfl
/-- the program's test of a star is the specification's -/
theorem fit_same (L : List St) (S : List D3) (ids : List Int) (a : Int) : fitF L S ids a = fitsB (sightsTo L S ids ids.length) (vA S ids.length, (a, atV L L.length a)) (sightsTo L S ids ids.length).length := fits_eq L S ids _ ids.length
end Go.Proofs.YtjdehbpgdplolaaGreatDoor

namespace Go.Proofs.YtjdehbpgdplolaaGreatDoor
open Go.RowKit Go.Sort Go.Shelf
set_option linter.unusedVariables false
attribute [local go_sem] Oper.semAt_some

/-- what goOn keeps: all cells and maps but the two boxes and its own map -/
structure KpM (b p q : Nat) (W W' : World) : Prop where
  size : W.heap.size ≤ W'.heap.size
  os : W'.os = W.os
  tape : W'.tape = W.tape
  output : W'.output = W.output
  same : ∀ k o, W.heap[k]? = some o → (o.isCells = true ∨ o.isWalk = true) → k ≠ b → k ≠ p → k ≠ q → W'.heap[k]? = some o
theorem KpM.trans {b p q : Nat} {A B C : World} (h : KpM b p q A B) (k : KpM b p q B C) : KpM b p q A C := ⟨Nat.le_trans h.size k.size, k.os.trans h.os, k.tape.trans h.tape, k.output.trans h.output, fun i o hi ho h0 h1 h2 => k.same i o (h.same i o hi ho h0 h1 h2) ho h0 h1 h2⟩
theorem KpX.toM {b p q : Nat} {A B : World} (h : KpX p q A B) : KpM b p q A B := ⟨h.size, h.os, h.tape, h.output, fun i o hi ho _ h1 h2 => h.same i o hi ho h1 h2⟩
theorem KpM.of_grown {b p q : Nat} {A B : World} (h : A.grownBy B (some b)) : KpM b p q A B := ⟨h.size, h.os, h.tape, h.output, fun i o hi _ h0 _ _ => by rw [h.block i (Array.getElem?_eq_some_iff.1 hi).1 (fun e => h0 (Option.some.inj e))]; exact hi⟩
theorem KpM.of_below {b p q : Nat} {A B : World} (h : Below A.heap.size A B) : KpM b p q A B := KpM.of_grown (grownB1 h)
theorem KpM.cell {b p q : Nat} {A B : World} (h : KpM b p q A B) {a : Addr} {v : Value} (hc : A.cell? a = some v) (h0 : a.block ≠ b) (h1 : a.block ≠ p) (h2 : a.block ≠ q) : B.cell? a = some v := by
  obtain ⟨o, ho, hi⟩ := cells_of_cell hc
  have e := h.same a.block o ho (.inl hi) h0 h1 h2
  rw [← hc]
  exact World.cell?_of_block (e.trans ho.symm)
def Apart3 (a : Option Addr) (b p q : Nat) : Prop := ∀ y, a = some y → y.block ≠ b ∧ y.block ≠ p ∧ y.block ≠ q
theorem starsM {b p q : Nat} {w w' : World} {a : Option Addr} {L : List St} {n : Nat} (h : Stars w a L n) (hg : KpM b p q w w') (hne : Apart3 a b p q) : Stars w' a L n := by
  rcases h with h | ⟨c, o, rfl, hb, hc⟩
  · exact .inl h
  · obtain ⟨n0, n1, n2⟩ := hne _ rfl
    refine .inr ⟨c, o, rfl, Nat.lt_of_lt_of_le hb hg.size, fun i hi => ?_⟩
    obtain ⟨c0, c1, c2, c3⟩ := hc i hi
    exact ⟨hg.cell c0 n0 n1 n2, hg.cell c1 n0 n1 n2, hg.cell c2 n0 n1 n2, hg.cell c3 n0 n1 n2⟩
theorem dirsM {b p q : Nat} {w w' : World} {a : Option Addr} {L : List D3} {n : Nat} (h : Dirs w a L n) (hg : KpM b p q w w') (hne : Apart3 a b p q) : Dirs w' a L n := by
  rcases h with h | ⟨c, o, rfl, hb, hc⟩
  · exact .inl h
  · obtain ⟨n0, n1, n2⟩ := hne _ rfl
    refine .inr ⟨c, o, rfl, Nat.lt_of_lt_of_le hb hg.size, fun i hi => ?_⟩
    obtain ⟨c0, c1, c2⟩ := hc i hi
    exact ⟨hg.cell c0 n0 n1 n2, hg.cell c1 n0 n1 n2, hg.cell c2 n0 n1 n2⟩
theorem sightsM {b p q : Nat} {w w' : World} {a : Option Addr} {A : List Sg} {n : Nat} (h : Sights w a A n) (hg : KpM b p q w w') (hne : Apart3 a b p q) : Sights w' a A n := by
  rcases h with h | ⟨c, o, rfl, hb, hc⟩
  · exact .inl h
  · obtain ⟨n0, n1, n2⟩ := hne _ rfl
    refine .inr ⟨c, o, rfl, Nat.lt_of_lt_of_le hb hg.size, fun i hi => ?_⟩
    obtain ⟨c0, c1, c2, c3, c4, c5, c6⟩ := hc i hi
    exact ⟨hg.cell c0 n0 n1 n2, hg.cell c1 n0 n1 n2, hg.cell c2 n0 n1 n2, hg.cell c3 n0 n1 n2, hg.cell c4 n0 n1 n2, hg.cell c5 n0 n1 n2, hg.cell c6 n0 n1 n2⟩
theorem NamedAt.isMap {w : World} {b n : Nat} {L : List St} {ids : List Int} (h : NamedAt w b n L ids) : ∃ es c, w.heap[b]? = some (.map es c) := by
  obtain ⟨D, ⟨es, c, hh, _⟩, _⟩ := h
  exact ⟨es, c, hh⟩
/-- J abides goOn's own steps -/
def JAb (b : Nat) (J : List (List Int) → World → Prop) : Prop := ∀ pre W W', J pre W → (∃ es c, W.heap[b]? = some (.map es c)) → W.grownBy W' (some b) → J pre W'
def GoOk (L : List St) (S : List D3) (ar br : Option Addr) (cr dr b l p q : Nat) (J : List (List Int) → World → Prop) (r : Nat) : Prop := ∀ (ids : List Int) (pre : List (List Int)) (N n : Nat) (w : World), ids.length + r = S.length → N + 13 ^ r ≤ 100000000 → NamedAt w b N L ids → Stars w ar L L.length → Dirs w br S S.length → p < w.heap.size → q < w.heap.size → J pre w →
    CallsIn Fence.wide n Tryz.prog 107 #[.agg #[.slice ar L.length cr, .slice br S.length dr, .map (some b)], .int .i64 (ids.length : Int), .func (.yield l) #[] #[]] w fun e W' => e = .returned (.bool true) ∧ J (pre ++ allN (fitF L S) (L.map (·.1)) r ids) W' ∧ NamedAt W' b (N + (13 ^ r - 1)) L ids ∧ KpM b p q w W'

theorem goOn_zero (L : List St) (S : List D3) (ar br : Option Addr) (cr dr b l p q : Nat) (J : List (List Int) → World → Prop) (hm : S.length ≤ 6) (hJ : JAb b J) (hY : RoundOk l p q J) (hbp : b ≠ p) (hbq : b ≠ q) : GoOk L S ar br cr dr b l p q J 0 := fun ids pre N n w hl hN13 hN hS hD hp hq hj => by
  refine (goOn_leaf L S ids ar br cr dr b N l p q n (fun pre' W => J pre' W ∧ ∃ es c, W.heap[b]? = some (.map es c)) pre w hm (by omega) hN ⟨hj, hN.isMap⟩ (fun W W' h hB => ?_) (fun m pre' x W h1 hq0 h2 h3 => ?_)).mono fun e W' h => ⟨h.1, h.2.1.1, ?_, h.2.2.toM⟩
  · obtain ⟨es, c, hh⟩ := h.2
    exact ⟨hJ _ _ _ h.1 h.2 (grownB1 hB), es, c, by rw [hB.block b (Array.getElem?_eq_some_iff.1 hh).1]; exact hh⟩
  · obtain ⟨fn, tmps, assign, body, hy, hR⟩ := hY m pre' x W h1.1 (hq0.elim fun W0 h => ⟨W0, h.1.1, h.2⟩) h2 h3
    refine ⟨fn, tmps, assign, body, hy, hR.mono fun e W' h => ⟨h.1, ⟨h.2.1, ?_⟩, h.2.2⟩⟩
    obtain ⟨es, c, hh⟩ := h1.2
    exact ⟨es, c, h.2.2.same b _ hh (.inr rfl) hbp hbq⟩
  · obtain ⟨D, ⟨es, c, hh, rest⟩, hM⟩ := hN
    exact ⟨D, (show W'.ownsMap Tryz.prog 3 starE b N D from ⟨es, c, h.2.2.same b _ hh (.inr rfl) hbp hbq, rest⟩).mono (by omega), hM⟩
end Go.Proofs.YtjdehbpgdplolaaGreatDoor
