/- Several texts in one: IeG, IeH, IeI, IeJ, IeK, IeL, IeN, IeO, IeQ. -/
import Derived.Maps.OwnSet
import Derived.Maps.Views
import Derived.RangeFuncNested
import Derived.RangeFuncBound
import Derived.RangeFuncCalls
import Derived.RangeFuncLeaves
import Derived.Shelf.Abstract
import Derived.Shelf.RegionOpen
import Derived.WalkKit
import Derived.OwnWalkIn
import Derived.TacticsInMore
import Derived.LoopNIn
import Derived.LoopIn
import Derived.Maps.OwnIn
import Derived.BigRegionIn
import Derived.Test.YteoonaanoenjiaaGreatDoorQObeyOwn13
namespace Go.Proofs.YteoonaanoenjiaaGreatDoor
open Go.RowKit Go.Sort
set_option linter.unusedVariables false
def stV (s : St) : Value := .agg #[.int .i64 s.1, .int .i64 s.2.1, .int .i64 s.2.2.1, .int .i64 s.2.2.2]
def starD (s : St) : DataW Unit := .agg [.lit (.int .i64 s.1), .lit (.int .i64 s.2.1), .lit (.int .i64 s.2.2.1), .lit (.int .i64 s.2.2.2)]
def starE (v : Value) : Option (DataW Unit × List MemPlace) := match v with
  | .agg ⟨[.int .i64 a, .int .i64 b, .int .i64 c, .int .i64 d]⟩ => some (starD (a, b, c, d), [])
  | _ => none
theorem starE_mk (s : St) : starE (stV s) = some (starD s, []) := rfl
theorem starE_inv {v : Value} {s : St} {ps : List MemPlace} (h : starE v = some (starD s, ps)) : v = stV s := by
  unfold starE at h
  split at h
  · simp only [Option.some.injEq, Prod.mk.injEq, starD, DataW.agg.injEq, List.cons.injEq, DataW.lit.injEq, Lit.int.injEq, true_and, and_true] at h
    obtain ⟨⟨h1, h2, h3, h4⟩, _⟩ := h
    subst h1 h2 h3 h4
    rfl
  · cases h
def zeroSt : St := (0, 0, 0, 0)
def nameSt (L : List St) (ids : List Int) (i : Nat) : St := if ids.getD i 0 ≠ 0 then (ids.getD i 0, atV L L.length (ids.getD i 0)) else zeroSt
def MapIs (D : DataW Unit) (L : List St) (ids : List Int) : Prop := ∀ i : Nat, i < 7 → Maps.has D (.int .i64 (i : Int)) = decide (ids.getD i 0 ≠ 0) ∧ D.atKey (.int .i64 (i : Int)) (starD zeroSt) = starD (nameSt L ids i)
def NamedAt (w : World) (b n : Nat) (L : List St) (ids : List Int) : Prop := ∃ D, w.ownsMap Tryz.prog 3 starE b n D ∧ MapIs D L ids
theorem wf_nat (i : Nat) (h : i < 7) : (Lit.int .i64 (i : Int)).wf = true := by
  rcases (by omega : i = 0 ∨ i = 1 ∨ i = 2 ∨ i = 3 ∨ i = 4 ∨ i = 5 ∨ i = 6) with rfl | rfl | rfl | rfl | rfl | rfl | rfl <;> decide
theorem keyI (i : Nat) (h : i < 7) : keyOf Tryz.prog 3 (.int .i64 (i : Int)) = some (.int .i64 (i : Int)) := Maps.keyOf_int_mk Tryz.underlying3 (wf_nat i h)
theorem zeroStar (w : World) : (zeroValue 113).run Tryz.prog w = .ok (stV zeroSt) w := by kernel_rfl
theorem NamedAt.look {w : World} {b n : Nat} {L : List St} {ids : List Int} (h : NamedAt w b n L ids) (i : Nat) (hi : i < 7) : (Instr.lookup 294 (.map (some b)) (.int .i64 (i : Int)) false).run Tryz.prog w = .ok (stV (nameSt L ids i)) w := by
  obtain ⟨D, hD, hM⟩ := h
  obtain ⟨v, ps, hr, hv⟩ := hD.lookup (Maps.int_keyed Tryz.underlying3) Tryz.underlying294 (zeroStar w) (starE_mk zeroSt) (keyI i hi)
  rw [(hM i hi).2] at hv
  rw [starE_inv hv] at hr
  exact hr
theorem NamedAt.lookOk {w : World} {b n : Nat} {L : List St} {ids : List Int} (h : NamedAt w b n L ids) (i : Nat) (hi : i < 7) : (Instr.lookup 294 (.map (some b)) (.int .i64 (i : Int)) true).run Tryz.prog w = .ok (.tuple #[stV (nameSt L ids i), .bool (decide (ids.getD i 0 ≠ 0))]) w := by
  obtain ⟨D, hD, hM⟩ := h
  obtain ⟨v, ps, hr, hv⟩ := hD.look_ok (Maps.int_keyed Tryz.underlying3) Tryz.underlying294 (zeroStar w) (starE_mk zeroSt) (keyI i hi)
  rw [(hM i hi).2] at hv
  rw [starE_inv hv, (hM i hi).1] at hr
  exact hr
theorem NamedAt.kept {w w' : World} {b n : Nat} {L : List St} {ids : List Int} {row : Option Nat} (h : NamedAt w b n L ids) (hg : w.grownBy w' row) (hne : some b ≠ row) : NamedAt w' b n L ids := by
  obtain ⟨D, hD, hM⟩ := h
  exact ⟨D, hD.kept hg hne, hM⟩
theorem name_id (L : List St) (ids : List Int) (i : Nat) : (nameSt L ids i).1 = ids.getD i 0 := by
  unfold nameSt
  split
  · rfl
  · rename_i h
    have h0 : ids.getD i 0 = 0 := by simpa using h
    rw [h0]
    rfl
theorem NamedAt.below {w w' : World} {b n : Nat} {L : List St} {ids : List Int} (h : NamedAt w b n L ids) (hB : Below w.heap.size w w') : NamedAt w' b n L ids := h.kept (row := none) ⟨hB.os, hB.tape, hB.output, hB.size, fun k hk _ => hB.block k hk⟩ (by simp)
def SrAt (w : World) (b : Nat) (v0 v1 v2 : Value) : Prop := w.cell? ⟨b, 0, none⟩ = some v0 ∧ w.cell? ⟨b, 1, none⟩ = some v1 ∧ w.cell? ⟨b, 2, none⟩ = some v2
theorem SrAt.kept {w w' : World} {b : Nat} {v0 v1 v2 : Value} (h : SrAt w b v0 v1 v2) (hB : Below w.heap.size w w') : SrAt w' b v0 v1 v2 := ⟨cellK5 h.1 hB, cellK5 h.2.1 hB, cellK5 h.2.2 hB⟩
set_option maxHeartbeats 2000000 in
set_option maxRecDepth 100000 in
theorem ids_any (L : List St) (ids : List Int) (m : Nat) (ar br : Option Addr) (nl cr dr b N : Nat) (w : World) (hm : m ≤ 6) (hN : NamedAt w b N L ids) :
    Calls Tryz.prog 222 #[.agg #[.slice ar nl cr, .slice br m dr, .map (some b)]] w fun e w' => e = .returned (.slice (some ⟨w.heap.size + 1, 0, none⟩) m m) ∧ RowV w' 2 (w.heap.size + 1) (m * 1) (numV ids) ∧ Below w.heap.size w w' := by
  have B0 := below1 w (.cells #[.slice ar nl cr, .slice br m dr, .map (some b)] 296)
  have C0 : SrAt (w.alloc (.cells #[.slice ar nl cr, .slice br m dr, .map (some b)] 296)) w.heap.size (.slice ar nl cr) (.slice br m dr) (.map (some b)) := by refine ⟨?_, ?_, ?_⟩ <;> simp
  have HN := yz (hN.below B0)
  have HC := yz C0
  have HB := yz B0
  have hsz : (w.alloc (.cells #[.slice ar nl cr, .slice br m dr, .map (some b)] 296)).heap.size = w.heap.size + 1 := by simp
  clear B0 C0 hN
  obtain ⟨i0, hi, hz0, hz1, hz2⟩ := info_parts info_i64
  go_enter Tryz.func222, Tryz.ntmps222
  go_wp2_with (at_make; refine wpList_make_full _ rfl _ _ 188 rfl (w.heap.size + 1) 2 i0 (.int .i64 0) 1 Tryz.underlying188 hi hz0 hz1 .i64 .i64 _ _ m rfl rfl rfl rfl (by rw [hz2]; omega) (by unfold maxLen; omega) (by simp) ?_; intro w0 hown0 hgrow0)
  have hzero : ∀ j, j < m * 1 → (madeCells (Value.int .i64 0).cells (m * 1)).toList[j]? = some (.int .i64 0) := by
    intro j hj
    have e : (Value.int .i64 0).cells = #[.int .i64 0] := rfl
    rw [e, toList_madeCells_one]
    simp at hj
    simp [hj]
  have H0 : Hid (RowV w0 2 (w.heap.size + 1) (m * 1) (fun j => if j < 0 then numV ids j else .int .i64 0)) := yz (by
    have h := RowV.made (v := .nilIface) hown0 hzero
    rw [hsz] at h
    exact h.congr (fun j hj => by rw [if_neg (by omega)]))
  have hb0 := below_grownN hgrow0
  have HB0 := yz (below_call (yx HB) hb0)
  have HN0 := yz ((yx HN).below hb0)
  have HC0 := yz ((yx HC).kept hb0)
  clear hown0 hgrow0 hzero hb0 HB HN HC hsz
  go_loopw [11] (fun i wr => ∃ k : Nat, k ≤ m ∧ i = .int .i64 k ∧ Hid (RowV wr 2 (w.heap.size + 1) (m * 1) (fun j => if j < k then numV ids j else .int .i64 0)) ∧ Hid (Below w.heap.size w wr) ∧ Hid (NamedAt wr b N L ids) ∧ Hid (SrAt wr w.heap.size (.slice ar nl cr) (.slice br m dr) (.map (some b)))) (fun i _ => m - (intOf i).toNat)
  case atStart => exact ⟨0, by omega, rfl, H0, HB0, HN0, HC0⟩
  case round =>
    clear H0 HB0 HN0 HC0
    obtain ⟨k, hk, rfl, HO, HB, HN, HC⟩ := hrel
    by_cases hkn : k < m
    · have hr := (yx HN).look k (by omega)
      have HID : Hid (numV ids k = .int .i64 (nameSt L ids k).1) := yz (by rw [name_id]; rfl)
      generalize nameSt L ids k = q at *
      obtain ⟨q1, q2, q3, q4⟩ := q
      unfold stV at hr
      dsimp only at hr HID
      have hkn2 : (k : Int) < (m : Int) := by omega
      have hfld : ∀ W : World, (Instr.field 113 (.agg #[.int .i64 q1, .int .i64 q2, .int .i64 q3, .int .i64 q4]) 0).run Tryz.prog W = .ok (.int .i64 q1) W := fun W => by kernel_rfl
      have e0 := (yx HO).cell (j := k) (by omega)
      have f0 := (yx HO).free k
      rw [if_neg (by omega)] at e0
      have hbN : b ≠ w.heap.size + 1 := fun e => by
        obtain ⟨D, ⟨es, cl, hh, _⟩, _⟩ := yx HN
        obtain ⟨cur, hc, _⟩ := yx HO
        rw [e, hc] at hh
        cases hh
      have HO3 : Hid (RowV (wr.setCell ⟨w.heap.size + 1, k, none⟩ (.int .i64 q1)) 2 (w.heap.size + 1) (m * 1) (fun j => if j < k + 1 then numV ids j else .int .i64 0)) := yz (((yx HO).set k (.int .i64 q1)).congr (fun j hj => by
        by_cases h : j = k
        · rw [if_pos h, if_pos (by omega), h, yx HID]
        · rw [if_neg h]
          by_cases h2 : j < k
          · rw [if_pos h2, if_pos (by omega)]
          · rw [if_neg h2, if_neg (by omega)]))
      have HB3 := yz ((yx HB).setCell (show w.heap.size ≤ w.heap.size + 1 by omega) (.int .i64 q1) : Below w.heap.size w (wr.setCell ⟨w.heap.size + 1, k, none⟩ (.int .i64 q1)))
      have HN3 : Hid (NamedAt (wr.setCell ⟨w.heap.size + 1, k, none⟩ (.int .i64 q1)) b N L ids) := yz ((yx HN).kept (row := some (w.heap.size + 1)) (grownSet (grownRefl wr _) k (.int .i64 q1)) (fun e => hbN (Option.some.inj e)))
      obtain ⟨c0, c1, c2⟩ := yx HC
      have HC3 : Hid (SrAt (wr.setCell ⟨w.heap.size + 1, k, none⟩ (.int .i64 q1)) w.heap.size (.slice ar nl cr) (.slice br m dr) (.map (some b))) := yz (by
        have hne : some w.heap.size ≠ some (w.heap.size + 1) := fun e => by have := Option.some.inj e; omega
        exact ⟨cellG5 c0 (grownSet (grownRefl wr _) k (.int .i64 q1)) hne, cellG5 c1 (grownSet (grownRefl wr _) k (.int .i64 q1)) hne, cellG5 c2 (grownSet (grownRefl wr _) k (.int .i64 q1)) hne⟩)
      clear HO HB HN HC hbN
      go_wp2_with fail
      go_roundw
      case rel => first | exact ⟨k + 1, by omega, by go_num, HO3, HB3, HN3, HC3⟩ | trace_state
      case measure => simp [intOf]; omega
    · have hkn' : k = m := by omega
      subst hkn'
      go_wp2_with fail
      go_ret
      exact ⟨rfl, (yx HO).congr (fun j hj => if_pos (by omega)), yx HB⟩
end Go.Proofs.YteoonaanoenjiaaGreatDoor
namespace Go.Proofs.YteoonaanoenjiaaGreatDoor
open Go.RowKit Go.Sort
set_option linter.unusedVariables false
set_option linter.unusedSimpArgs false
set_option maxHeartbeats 4000000 in
set_option maxRecDepth 100000 in
theorem ahead_any (L : List St) (S : List D3) (ids : List Int) (n : Nat) (ar br : Option Addr) (nl cr dr b N : Nat) (w : World) (hm : S.length ≤ 6) (hn : n ≤ S.length) (hD : Dirs w br S S.length) (hN : NamedAt w b N L ids) :
    Calls Tryz.prog 223 #[.agg #[.slice ar nl cr, .slice br S.length dr, .map (some b)], .int .i64 (n : Int)] w fun e w' => (∃ v, e = .returned v ∧ w'.ownsRow (w.heap.size + 1) 299 7 v (sightsTo L S ids n).length (flatSg (sightsTo L S ids n))) ∧ Below w.heap.size w w' := by
  obtain ⟨i0, hinf, hz0, hz1, hz2⟩ := info_parts info_sight
  have hm8 : 1000 ≤ maxLen := by decide +kernel
  have B0 := below1 w (.cells #[.slice ar nl cr, .slice br S.length dr, .map (some b)] 296)
  have C0 : SrAt (w.alloc (.cells #[.slice ar nl cr, .slice br S.length dr, .map (some b)] 296)) w.heap.size (.slice ar nl cr) (.slice br S.length dr) (.map (some b)) := by refine ⟨?_, ?_, ?_⟩ <;> simp
  have HSn := yz (sights_snoc L S ids)
  have HLE := yz (sights_len L S ids)
  have HSO : Hid (∀ i, sgOf L S ids i = (vA S i, (ids.getD i 0, atV L L.length (ids.getD i 0)))) := yz (fun i => rfl)
  have HNS : Hid (∀ i, ids.getD i 0 ≠ 0 → nameSt L ids i = (ids.getD i 0, atV L L.length (ids.getD i 0))) := yz (fun i h => by unfold nameSt; rw [if_pos h])
  have HNZ : Hid (∀ i, ids.getD i 0 = 0 → nameSt L ids i = (0, 0, 0, 0)) := yz (fun i h => by unfold nameSt; rw [if_neg (by simpa using h)]; rfl)
  have HD := yz (hD.kept B0)
  have HN0 := yz (hN.below B0)
  have HC0 := yz C0
  have HB0 := yz B0
  have hsz : (w.alloc (.cells #[.slice ar nl cr, .slice br S.length dr, .map (some b)] 296)).heap.size = w.heap.size + 1 := by simp
  clear B0 C0 hD hN
  generalize hme : S.length = m at *
  go_enter Tryz.func223, Tryz.ntmps223
  go_wp2_with fail
  generalize hW : w.alloc (.cells #[.slice ar nl cr, .slice br m dr, .map (some b)] 296) = W at *
  clear hW
  go_loopw [5, 10] (fun v kk wr => ∃ i : Nat, i ≤ n ∧ kk = .int .i64 i ∧ Hid (wr.ownsRow (w.heap.size + 1) 299 7 v (sightsTo L S ids i).length (flatSg (sightsTo L S ids i))) ∧ Hid (Below W.heap.size W wr)) (fun _ kk _ => n - (intOf kk).toNat)
  case atStart => exact ⟨0, by omega, rfl, yz (World.ownsRow_nil _ _ _ _), yz (Below.refl _ _)⟩
  case round =>
    obtain ⟨i, hi, rfl, HO, HB⟩ := hrel
    by_cases hin : i < n
    · have hin2 : (i : Int) < (n : Int) := by omega
      have hr := ((yx HN0).below (yx HB)).lookOk i (by omega)
      obtain ⟨c0, c1, c2⟩ := (yx HC0).kept (yx HB)
      have HSN := yz (yx HSn i)
      have HSI := yz (yx HSO i)
      have hns := yx HNS i
      have hnz := yx HNZ i
      have hle := yx HLE i
      generalize ids.getD i 0 = id at *
      by_cases hid : id = 0
      · subst hid
        rw [hnz rfl] at hr
        unfold stV at hr
        simp only [ne_eq, not_true_eq_false, decide_false] at hr
        rw [if_neg (by simp), List.append_nil] at HSN
        have Z := below1 wr (.cells #[.int .i64 0, .int .i64 0, .int .i64 0, .int .i64 0] 113)
        have HO3 : Hid ((wr.alloc (.cells #[.int .i64 0, .int .i64 0, .int .i64 0, .int .i64 0] 113)).ownsRow (w.heap.size + 1) 299 7 u5 (sightsTo L S ids (i + 1)).length (flatSg (sightsTo L S ids (i + 1)))) := yz (by rw [yx HSN]; exact oKept (yx HO) Z)
        have HB3 := yz (below_call (yx HB) Z)
        clear Z HO HB hns hnz
        go_wp2_with fail
        go_roundw
        case rel => first | exact ⟨i + 1, by omega, by go_num, HO3, HB3⟩ | trace_state
        case measure => simp [intOf] <;> omega
      · have hid' : decide (id ≠ 0) = true := by simp [hid]
        rw [hns hid, hid'] at hr
        rw [if_pos hid, yx HSI] at HSN
        clear HSI hns hnz
        generalize atV L L.length id = q at *
        obtain ⟨q1, q2, q3⟩ := q
        unfold stV at hr
        dsimp only at hr
        have HU : Hid (∀ z, u5.ownBlock = some z → w.heap.size + 1 ≤ z ∧ z < wr.heap.size) := yz (fun z e => (yx HO).lt z e)
        have Z := below1 wr (.cells #[.int .i64 id, .int .i64 q1, .int .i64 q2, .int .i64 q3] 113)
        have HO2 := yz (oKept (yx HO) Z)
        have HB2 := yz (below_call (yx HB) Z)
        have N2 := yz (starAt_new wr (id, q1, q2, q3) 113)
        clear Z HO HB
        go_wp2_with fail
        clear c0 c1 c2 hr
        generalize wr.alloc (.cells #[.int .i64 id, .int .i64 q1, .int .i64 q2, .int .i64 q3] 113) = W2 at HO2 HB2 N2 ⊢
        generalize wr.heap.size = tb at *
        rcases yx HD with h | ⟨bb, bo, rfl, hbb, hbc⟩
        · omega
        have hst := (hbc i (by omega)).kept hbb (yx HB2)
        obtain ⟨_, x1, _⟩ := (yx HC0).kept (yx HB2)
        clear hbc
        generalize vA S i = sv at *
        obtain ⟨v1, v2, v3⟩ := sv
        obtain ⟨c0, c1, c2⟩ := hst
        obtain ⟨d0, d1, d2, d3⟩ := yx N2
        simp only [Nat.zero_add] at d0 d1 d2 d3
        simp only at c0 c1 c2
        have him : (i : Int) < (m : Int) := by omega
        refine wp_region_held_drew (S := (fun w' => w'.cell? ⟨w.heap.size, 1, none⟩ = some (.slice (some ⟨bb, bo, none⟩) m dr) ∧ (w'.cell? ⟨bb, bo + i * 3, none⟩ = some (.int .i64 v1) ∧ w'.cell? ⟨bb, bo + i * 3 + 1, none⟩ = some (.int .i64 v2) ∧ w'.cell? ⟨bb, bo + i * 3 + 2, none⟩ = some (.int .i64 v3)) ∧ w'.cell? ⟨tb, 0, none⟩ = some (.int .i64 id) ∧ w'.cell? ⟨tb, 1, none⟩ = some (.int .i64 q1) ∧ w'.cell? ⟨tb, 2, none⟩ = some (.int .i64 q2) ∧ w'.cell? ⟨tb, 3, none⟩ = some (.int .i64 q3))) (by kernel_rfl) ?_ (fun hHeld => ?_)
        · exact ⟨x1, ⟨c0, c1, c2⟩, d0, d1, d2, d3⟩
        refine wpAnyH_take (i := 0) (v := ?_) rfl (by kernel_rfl) (by kernel_rfl) (by kernel_rfl) (fun _ _ _ h => h) (Or.inl ⟨by rfl, ?_⟩) (by assumption) ?_
        rotate_left
        · intro W0 hSw; (try dsimp only at hSw); go_simp <;> with_reducible rfl
        try simp only [Act.put, List.setIfInBounds_toArray, List.set_cons_zero, List.set_cons_succ]
        refine wpAnyH_take (i := 1) (v := ?_) rfl (by kernel_rfl) (by kernel_rfl) (by kernel_rfl) (fun _ _ _ h => h) (Or.inl ⟨by rfl, ?_⟩) (by assumption) ?_
        rotate_left
        · intro W0 hSw; (try dsimp only at hSw); go_simp <;> with_reducible rfl
        try simp only [Act.put, List.setIfInBounds_toArray, List.set_cons_zero, List.set_cons_succ]
        refine wpAnyH_take (i := 2) (v := ?_) rfl (by kernel_rfl) (by kernel_rfl) (by kernel_rfl) (fun _ _ _ h => h) (Or.inl ⟨by rfl, ?_⟩) (by assumption) ?_
        rotate_left
        · intro W0 hSw; (try dsimp only at hSw); go_simp <;> with_reducible rfl
        try simp only [Act.put, List.setIfInBounds_toArray, List.set_cons_zero, List.set_cons_succ]
        refine wpAnyH_take (i := 3) (v := ?_) rfl (by kernel_rfl) (by kernel_rfl) (by kernel_rfl) (fun _ _ _ h => h) (Or.inl ⟨by rfl, ?_⟩) (by assumption) ?_
        rotate_left
        · intro W0 hSw; (try dsimp only at hSw); go_simp <;> with_reducible rfl
        try simp only [Act.put, List.setIfInBounds_toArray, List.set_cons_zero, List.set_cons_succ]
        refine wpAnyH_take (i := 4) (v := ?_) rfl (by kernel_rfl) (by kernel_rfl) (by kernel_rfl) (fun _ _ _ h => h) (Or.inl ⟨by rfl, ?_⟩) (by assumption) ?_
        rotate_left
        · intro W0 hSw; (try dsimp only at hSw); go_simp <;> with_reducible rfl
        try simp only [Act.put, List.setIfInBounds_toArray, List.set_cons_zero, List.set_cons_succ]
        refine wpAnyH_take (i := 5) (v := ?_) rfl (by kernel_rfl) (by kernel_rfl) (by kernel_rfl) (fun _ _ _ h => h) (Or.inl ⟨by rfl, ?_⟩) (by assumption) ?_
        rotate_left
        · intro W0 hSw; (try dsimp only at hSw); go_simp <;> with_reducible rfl
        try simp only [Act.put, List.setIfInBounds_toArray, List.set_cons_zero, List.set_cons_succ]
        refine wpAnyH_take (i := 6) (v := ?_) rfl (by kernel_rfl) (by kernel_rfl) (by kernel_rfl) (fun _ _ _ h => h) (Or.inl ⟨by rfl, ?_⟩) (by assumption) ?_
        rotate_left
        · intro W0 hSw; (try dsimp only at hSw); go_simp <;> with_reducible rfl
        try simp only [Act.put, List.setIfInBounds_toArray, List.set_cons_zero, List.set_cons_succ]
        refine wpAnyH_take (i := 7) (v := ?_) rfl (by kernel_rfl) (by kernel_rfl) (by kernel_rfl) (fun _ _ _ h => h) (Or.inl ⟨by rfl, ?_⟩) (by assumption) ?_
        rotate_left
        · intro W0 hSw; (try dsimp only at hSw); go_simp <;> with_reducible rfl
        try simp only [Act.put, List.setIfInBounds_toArray, List.set_cons_zero, List.set_cons_succ]
        have HK : Hid (∀ W' : World, Below W2.heap.size W2 W' → (W'.cell? ⟨w.heap.size, 1, none⟩ = some (.slice (some ⟨bb, bo, none⟩) m dr) ∧ (W'.cell? ⟨bb, bo + i * 3, none⟩ = some (.int .i64 v1) ∧ W'.cell? ⟨bb, bo + i * 3 + 1, none⟩ = some (.int .i64 v2) ∧ W'.cell? ⟨bb, bo + i * 3 + 2, none⟩ = some (.int .i64 v3)) ∧ W'.cell? ⟨tb, 0, none⟩ = some (.int .i64 id) ∧ W'.cell? ⟨tb, 1, none⟩ = some (.int .i64 q1) ∧ W'.cell? ⟨tb, 2, none⟩ = some (.int .i64 q2) ∧ W'.cell? ⟨tb, 3, none⟩ = some (.int .i64 q3))) := yz (fun W' h => ⟨cellK5 x1 h, ⟨cellK5 c0 h, cellK5 c1 h, cellK5 c2 h⟩, cellK5 d0 h, cellK5 d1 h, cellK5 d2 h, cellK5 d3 h⟩)
        have HOd : Hid (W2.drew.ownsRow (w.heap.size + 1) 299 7 u5 (sightsTo L S ids i).length (flatSg (sightsTo L S ids i))) := HO2
        have HBd := yz ((Below.refl W2.heap.size W2).drew)
        clear c0 c1 c2 d0 d1 d2 d3 x1 N2
        refine wpAnyH_ready (rs := [8]) (by kernel_rfl) (by simp) ?_
        refine AllReadyH.cons rfl (fun K hK => ?_) AllReadyH.nil
        go_simp
        have Z5 := below1 W2.drew (.cells #[.int .i64 v1, .int .i64 v2, .int .i64 v3, .int .i64 id, .int .i64 q1, .int .i64 q2, .int .i64 q3] 299)
        have hown := oKept (yx HOd) Z5
        have HB5 := yz (below_call (yx HBd) Z5)
        have hszd : W2.drew.heap.size = W2.heap.size := rfl
        have hbW : W.heap.size ≤ W2.heap.size := (yx HB2).size
        clear Z5 HOd HBd
        refine hK.out _ _ (yx HK _ (yx HB5)) (fun hHeld3 => ?_)
        clear hK K hHeld
        refine wpAnyH_ready (rs := [9]) (by kernel_rfl) (by simp) ?_
        refine AllReadyH.cons rfl (fun K hK => ?_) AllReadyH.nil
        refine step_append7 rfl _ _ 278 rfl (w.heap.size + 1) 299 i0 (.agg #[.int .i64 0, .int .i64 0, .int .i64 0, .int .i64 0, .int .i64 0, .int .i64 0, .int .i64 0]) 7 56 Tryz.underlying278 hinf hz0 hz1 hz2 rfl (by decide) _ _ _ rfl hown ⟨W2.drew.heap.size, 0, none⟩ 1 1 (flatSg [((v1, v2, v3), (id, q1, q2, q3))]) rfl rfl ?d2 (fun u hu => flatSg_cell hu) ?d3 ?d4 ?d5 ?_
        case d2 => first | exact fun j u h => h | exact new_cells _ _ _
        case d3 => omega
        case d4 => omega
        case d5 => first | omega | (simp; omega)
        intro v7 V7 hown7 hgrow7
        have neb : ∀ z, z < w.heap.size + 1 ∨ tb ≤ z → some z ≠ u5.ownBlock := fun z hz e => by have := yx HU z e.symm; omega
        have HB8 : Hid (Below W.heap.size W V7) := yz ((below_call (yx HB2) (yx HB5)).trans ⟨hgrow7.os, hgrow7.tape, hgrow7.output, hgrow7.size, fun z hz => hgrow7.block z (by simp; omega) (neb z (.inl (by omega)))⟩)
        have HO8 : Hid (V7.ownsRow (w.heap.size + 1) 299 7 v7 (sightsTo L S ids (i + 1)).length (flatSg (sightsTo L S ids (i + 1)))) := yz (by rw [yx HSN, flatSg_app, List.length_append]; exact hown7)
        obtain ⟨k1, ⟨k2, k3, k4⟩, k5, k6, k7, k8⟩ := yx HK _ (yx HB5)
        have hbb2 : bb < w.heap.size + 1 := by omega
        have k1' := cellGrown k1 hgrow7 (neb _ (.inl (show w.heap.size < w.heap.size + 1 by omega)))
        have k2' := cellGrown k2 hgrow7 (neb _ (.inl hbb2))
        have k3' := cellGrown k3 hgrow7 (neb _ (.inl hbb2))
        have k4' := cellGrown k4 hgrow7 (neb _ (.inl hbb2))
        have k5' := cellGrown k5 hgrow7 (neb _ (.inr (Nat.le_refl _)))
        have k6' := cellGrown k6 hgrow7 (neb _ (.inr (Nat.le_refl _)))
        have k7' := cellGrown k7 hgrow7 (neb _ (.inr (Nat.le_refl _)))
        have k8' := cellGrown k8 hgrow7 (neb _ (.inr (Nat.le_refl _)))
        clear hown7 hgrow7 hown k1 k2 k3 k4 k5 k6 k7 k8 neb HB5 HB2 HO2
        refine hK.out _ _ ⟨k1', ⟨k2', k3', k4'⟩, k5', k6', k7', k8'⟩ (fun hHeld4 => ?_)
        clear hK K hHeld3
        refine wpAnyH_ready (rs := [10]) (by kernel_rfl) (by simp) ?_
        refine AllReadyH.cons rfl (fun K hK => ?_) AllReadyH.nil
        go_simp
        refine hK.out _ _ ⟨k1', ⟨k2', k3', k4'⟩, k5', k6', k7', k8'⟩ (fun hHeld5 => ?_)
        clear hK K hHeld4
        refine wpAnyH_done (by kernel_rfl) ?_ _
        clear k1' k2' k3' k4' k5' k6' k7' k8' hHeld5 HK
        go_wp2_with fail
        go_roundw
        case rel => first | exact ⟨i + 1, by omega, by go_num, HO8, HB8⟩ | trace_state
        case measure => simp [intOf] <;> omega
    · have hin' : i = n := by omega
      subst hin'
      go_wp2_with fail
      go_ret
      exact ⟨⟨_, rfl, yx HO⟩, below_call (yx HB0) (yx HB)⟩
end Go.Proofs.YteoonaanoenjiaaGreatDoor
namespace Go.Proofs.YteoonaanoenjiaaGreatDoor
open Go.RowKit Go.Sort
set_option linter.unusedVariables false
theorem cntN_take (ids : List Int) {i : Nat} (hi : i < ids.length) : cntN (ids.take (i + 1)) = cntN (ids.take i) + if ids.getD i 0 ≠ 0 then 1 else 0 := by
  rw [List.take_succ_eq_append_getElem hi, cntN_snoc]
  have e : ids.getD i 0 = ids[i] := by rw [List.getD_eq_getElem?_getD, List.getElem?_eq_getElem hi]; rfl
  rw [e]
set_option maxHeartbeats 1000000 in
set_option maxRecDepth 100000 in
theorem countNamed_any (ids : List Int) (a : Option Addr) (c : Nat) (w : World) (hk : ids.length ≤ 1048576) (hI : Nums w a ids ids.length) :
    Calls Tryz.prog 182 #[.slice a ids.length c] w fun e w' => e = .returned (.int .i64 (cntN ids : Int)) ∧ w' = w := by
  have HT : Hid (cntN (ids.take ids.length) = cntN ids) := yz (by rw [List.take_length])
  rcases hI with h0 | ⟨b, o, rfl, hb, hc⟩
  · have e : ids = [] := List.eq_nil_of_length_eq_zero h0
    subst e
    go_enter Tryz.func182, Tryz.ntmps182
    go_wp2_with fail
    refine wp_loop_rounds 1 ?_
    rw [rounds_succ]
    go_wp2_with fail
    go_ret
    exact ⟨rfl, rfl⟩
  have HC := yz hc
  clear hc
  go_enter Tryz.func182, Tryz.ntmps182
  go_wp2_with fail
  go_loop [3, 8] (fun q i => ∃ k : Nat, k ≤ ids.length ∧ i = .int .i64 k ∧ q = .int .i64 (cntN (ids.take k) : Int)) (fun _ i => ids.length - (intOf i).toNat)
  case atStart => exact ⟨0, Nat.zero_le _, rfl, rfl⟩
  case round =>
    obtain ⟨k, hkl, rfl, rfl⟩ := hrel
    by_cases hkn : k < ids.length
    · have c0 := yx HC k hkn
      have HS := yz (cntN_take ids hkn)
      have hle := cntN_le (ids.take k)
      rw [List.length_take] at hle
      have hle2 : (cntN (ids.take k) : Int) ≤ 1048576 := by omega
      have hkn2 : (k : Int) < (ids.length : Int) := by omega
      generalize ids.getD k 0 = z at *
      by_cases hz : z = 0
      · have HS2 : Hid (cntN (ids.take (k + 1)) = cntN (ids.take k)) := yz (by rw [yx HS, if_neg (by simpa using hz)]; rfl)
        subst hz
        go_wp2_with fail
        go_round
        case rel => exact ⟨k + 1, by omega, by go_num, by rw [yx HS2]⟩
        case measure => simp [intOf]; omega
      · have HS2 : Hid (cntN (ids.take (k + 1)) = cntN (ids.take k) + 1) := yz (by rw [yx HS, if_pos hz])
        go_wp2_with fail
        go_round
        case rel => exact ⟨k + 1, by omega, by go_num, by rw [yx HS2]; go_num⟩
        case measure => simp [intOf]; omega
    · obtain rfl : k = ids.length := by omega
      go_wp2_with fail
      go_ret
      exact ⟨rfl, rfl⟩
def greatR (L : List St) (S : List D3) : List Int × Nat := (allN (fitF L S) (L.map (·.1)) S.length []).foldl stepG ([], 0)
theorem great_same (L : List St) (S : List D3) : idIds L S = (if (greatR L S).2 = 1 then (greatR L S).1 else []) ∧ idCnt L S = (if (greatR L S).2 = 1 then (cntN (greatR L S).1 : Int) else 0) ∧ idCode L S = (if (greatR L S).2 = 0 then 6 else if 1 < (greatR L S).2 then 11 else 0) := by
  have h := sameN_all (fitF L S) (L.map (·.1)) S.length
  unfold idIds idCnt idCode
  change SameN (idR L S) (greatR L S) at h
  rcases h with ⟨h1, h2, h3⟩ | ⟨h1, h2, h3, h4, h5⟩
  · rw [h1, h3]
    exact ⟨rfl, rfl, rfl⟩
  · rw [h4]
    refine ⟨?_, ?_, rfl⟩
    · split
      · rename_i e; exact h5 e
      · rfl
    · split
      · rw [h3]
      · rfl
end Go.Proofs.YteoonaanoenjiaaGreatDoor
namespace Go.Proofs.YteoonaanoenjiaaGreatDoor
open Go.RowKit Go.Sort Go.Shelf
set_option linter.unusedVariables false
attribute [local go_sem] Oper.semAt_some
abbrev Nam := List Int × Nat
def namV (x : Nam) : Value := .slice (some ⟨x.2, 0, none⟩) x.1.length x.1.length
def namH (x : Nam) (w : World) : Prop := RowV w 2 x.2 (x.1.length * 1) (numV x.1)
structure KpX (p q : Nat) (W W' : World) : Prop where
  size : W.heap.size ≤ W'.heap.size
  os : W'.os = W.os
  tape : W'.tape = W.tape
  output : W'.output = W.output
  same : ∀ k o, W.heap[k]? = some o → (o.isCells = true ∨ o.isWalk = true) → k ≠ p → k ≠ q → W'.heap[k]? = some o
theorem KpX.trans {p q : Nat} {A B C : World} (h : KpX p q A B) (k : KpX p q B C) : KpX p q A C := ⟨Nat.le_trans h.size k.size, k.os.trans h.os, k.tape.trans h.tape, k.output.trans h.output, fun i o hi ho h1 h2 => k.same i o (h.same i o hi ho h1 h2) ho h1 h2⟩
theorem KpX.of_below {p q : Nat} {A B : World} (h : Below A.heap.size A B) : KpX p q A B := ⟨h.size, h.os, h.tape, h.output, fun i o hi _ _ _ => by rw [h.block i (Array.getElem?_eq_some_iff.1 hi).1]; exact hi⟩
def RoundOk (l p q : Nat) (J : List (List Int) → World → Prop) : Prop := ∀ m pre (x : Nam) W, J pre W → (∃ W0, J pre W0 ∧ W0.heap.size ≤ x.2) → namH x W → x.1.length ≤ 6 → YieldAt Fence.wide m Tryz.prog l #[namV x] W fun e W' => e = .returned (.bool true) ∧ J (pre ++ [x.1]) W' ∧ KpX p q W W'
set_option maxHeartbeats 4000000 in
set_option maxRecDepth 100000 in
theorem goOn_leaf (L : List St) (S : List D3) (ids : List Int) (ar br : Option Addr) (cr dr b N l p q n : Nat) (J : List (List Int) → World → Prop) (pre : List (List Int)) (w : World) (hm : S.length ≤ 6) (hl : ids.length = S.length) (hN : NamedAt w b N L ids)
    (hJ : J pre w) (hJa : ∀ W W', J pre W → Below W.heap.size W W' → J pre W') (hY : RoundOk l p q J) :
    CallsIn Fence.wide n Tryz.prog 217 #[.agg #[.slice ar L.length cr, .slice br S.length dr, .map (some b)], .int .i64 (ids.length : Int), .func (.yield l) #[] #[]] w fun e W' => e = .returned (.bool true) ∧ J (pre ++ [ids]) W' ∧ KpX p q w W' := by
  have B0 := below1 w (.cells #[.slice ar L.length cr, .slice br S.length dr, .map (some b)] 296)
  have HB := yz B0
  have HJ := yz (hJa _ _ hJ B0)
  have cI := yz (fun (k : Nat) => callsIn_wide (n := k) |>.2 (ids_any L ids S.length ar br L.length cr dr b N _ hm (hN.below B0)))
  have HY := yz hY
  have HJa := yz hJa
  clear B0 hN hJ hY hJa
  rw [hl]
  refine callsIn_of_wp Tryz.func217 rfl trivial ?_ rfl
  simp only [Tryz.ntmps217, List.size_toArray, List.length_cons, List.length_nil, Nat.reduceAdd, Nat.reduceSub, Array.replicate_succ, Array.replicate_zero, List.push_toArray, List.append_toArray, List.nil_append, List.cons_append]
  gi_wp2
  refine ⟨trivial, fun h => (by cases h), ?_⟩
  refine (yx cI _).mono ?_
  rintro e w1 ⟨rfl, hrow, hx⟩
  have hsz : (w.alloc (.cells #[.slice ar L.length cr, .slice br S.length dr, .map (some b)] 296)).heap.size = w.heap.size + 1 := by simp
  rw [hsz] at hrow ⊢
  have HY1 := yx HY (n - 1) pre (ids, w.heap.size + 1 + 1) w1 (yx HJa _ _ (yx HJ) hx) ⟨_, yx HJ, by simp⟩ (by unfold namH; dsimp only; rw [hl]; exact hrow) (by dsimp only; omega)
  unfold namV at HY1
  dsimp only at HY1
  rw [hl] at HY1
  have HK := yz (KpX.of_below (p := p) (q := q) (below_call (yx HB) hx))
  clear hrow hx hsz cI HY HJa HJ HB
  obtain ⟨fn, tmps, assign, body, hy, hR⟩ := HY1
  gi_wp2
  refine ⟨fun h => (by cases h), ?_⟩
  refine hR.mono ?_
  rintro e w2 ⟨rfl, hJ2, hk2⟩
  have HJ2 := yz hJ2
  have HK2 := yz ((yx HK).trans hk2)
  clear hJ2 hk2 hR hy HK
  gi_wp2
  go_ret
  exact ⟨rfl, yx HJ2, yx HK2⟩
end Go.Proofs.YteoonaanoenjiaaGreatDoor
namespace Go.Proofs.YteoonaanoenjiaaGreatDoor
open Go.RowKit Go.Sort
set_option linter.unusedVariables false
theorem key_ne {i j : Nat} (h : i ≠ j) : (Lit.int .i64 (i : Int)) ≠ Lit.int .i64 (j : Int) := fun e => h (by injection e with _ e; omega)
theorem getD_snoc_lt (ids : List Int) (a : Int) {i : Nat} (h : i < ids.length) : (ids ++ [a]).getD i 0 = ids.getD i 0 := by rw [List.getD_eq_getElem?_getD, List.getD_eq_getElem?_getD, List.getElem?_append_left h]
theorem getD_snoc_at (ids : List Int) (a : Int) : (ids ++ [a]).getD ids.length 0 = a := by rw [List.getD_eq_getElem?_getD, List.getElem?_append_right (Nat.le_refl _), Nat.sub_self]; rfl
theorem getD_snoc_gt (ids : List Int) (a : Int) {i : Nat} (h : ids.length < i) : (ids ++ [a]).getD i 0 = 0 := by
  rw [List.getD_eq_getElem?_getD, List.getElem?_append_right (by omega), List.getElem?_eq_none (by simp; omega)]
  rfl
theorem getD_end (ids : List Int) {i : Nat} (h : ids.length ≤ i) : ids.getD i 0 = 0 := by rw [List.getD_eq_getElem?_getD, List.getElem?_eq_none h]; rfl
theorem getD_snoc0 (ids : List Int) (i : Nat) : (ids ++ [(0 : Int)]).getD i 0 = ids.getD i 0 := by
  rcases Nat.lt_trichotomy i ids.length with h | h | h
  · exact getD_snoc_lt ids 0 h
  · rw [h, getD_snoc_at, getD_end ids (Nat.le_refl _)]
  · rw [getD_snoc_gt ids 0 h, getD_end ids (by omega)]
theorem MapIs.snoc0 {D : DataW Unit} {L : List St} {ids : List Int} (h : MapIs D L ids) : MapIs D L (ids ++ [0]) := fun i hi => by
  have h1 := h i hi
  unfold nameSt at h1 ⊢
  rw [getD_snoc0]
  exact h1
theorem MapIs.put {D : DataW Unit} {L : List St} {ids : List Int} {a : Int} (h : MapIs D L ids) (hm : Maps.IsMap D) (ha : a ≠ 0) : MapIs (D.put (.int .i64 (ids.length : Int)) (starD (a, atV L L.length a))) L (ids ++ [a]) := fun i hi => by
  by_cases e : i = ids.length
  · subst e
    rw [Maps.has_put_same hm (by trivial), Maps.atKey_put_same hm (by trivial)]
    unfold nameSt
    rw [getD_snoc_at, if_pos ha]
    exact ⟨by simp [ha], rfl⟩
  · rw [Maps.has_put_other (key_ne e), Maps.atKey_put_other (key_ne e)]
    have h1 := h i hi
    unfold nameSt at h1 ⊢
    have e2 : (ids ++ [a]).getD i 0 = ids.getD i 0 := by
      rcases Nat.lt_or_gt_of_ne e with h2 | h2
      · exact getD_snoc_lt ids a h2
      · rw [getD_snoc_gt ids a h2, getD_end ids (by omega)]
    rw [e2]
    exact h1
theorem MapIs.del {D : DataW Unit} {L : List St} {ids : List Int} {a : Int} (h : MapIs D L (ids ++ [a])) : MapIs (D.del (.int .i64 (ids.length : Int))) L ids := fun i hi => by
  by_cases e : i = ids.length
  · subst e
    rw [Maps.has_del_same, Maps.atKey_del_same]
    unfold nameSt
    rw [getD_end ids (Nat.le_refl _), if_neg (by simp)]
    exact ⟨by simp, rfl⟩
  · rw [Maps.has_del_other (key_ne e), Maps.atKey_del_other (key_ne e)]
    have h1 := h i hi
    unfold nameSt at h1 ⊢
    have e2 : (ids ++ [a]).getD i 0 = ids.getD i 0 := by
      rcases Nat.lt_or_gt_of_ne e with h2 | h2
      · exact getD_snoc_lt ids a h2
      · rw [getD_snoc_gt ids a h2, getD_end ids (by omega)]
    rw [e2] at h1
    exact h1
def partN (F : List Int → Int → Bool) (A : List Int) (r : Nat) (ids : List Int) (i : Nat) : List (List Int) := ((A.take i).filter (F ids)).flatMap (fun a => allN F A r (ids ++ [a]))
theorem partN_zero (F : List Int → Int → Bool) (A : List Int) (r : Nat) (ids : List Int) : partN F A r ids 0 = [] := rfl
theorem partN_succ (F : List Int → Int → Bool) (A : List Int) (r : Nat) (ids : List Int) {i : Nat} (hi : i < A.length) : partN F A r ids (i + 1) = partN F A r ids i ++ if F ids (A.getD i 0) = true then allN F A r (ids ++ [A.getD i 0]) else [] := by
  unfold partN
  rw [List.take_succ_eq_append_getElem hi, List.filter_append, List.flatMap_append]
  have e : A.getD i 0 = A[i] := by rw [List.getD_eq_getElem?_getD, List.getElem?_eq_getElem hi]; rfl
  rw [e]
  congr 1
  cases h : F ids A[i] <;> simp [h]
theorem allN_node (F : List Int → Int → Bool) (A : List Int) (r : Nat) (ids : List Int) : allN F A (r + 1) ids = partN F A r ids A.length ++ allN F A r (ids ++ [0]) := by
  unfold partN
  rw [List.take_length]
  rfl
theorem fit_same (L : List St) (S : List D3) (ids : List Int) (a : Int) : fitF L S ids a = fitsB (sightsTo L S ids ids.length) (vA S ids.length, (a, atV L L.length a)) (sightsTo L S ids ids.length).length := fits_eq L S ids _ ids.length
end Go.Proofs.YteoonaanoenjiaaGreatDoor
namespace Go.Proofs.YteoonaanoenjiaaGreatDoor
open Go.RowKit Go.Sort Go.Shelf
set_option linter.unusedVariables false
attribute [local go_sem] Oper.semAt_some
structure KpM (b p q : Nat) (W W' : World) : Prop where
  size : W.heap.size ≤ W'.heap.size
  os : W'.os = W.os
  tape : W'.tape = W.tape
  output : W'.output = W.output
  same : ∀ k o, W.heap[k]? = some o → (o.isCells = true ∨ o.isWalk = true) → k ≠ b → k ≠ p → k ≠ q → W'.heap[k]? = some o
theorem KpM.trans {b p q : Nat} {A B C : World} (h : KpM b p q A B) (k : KpM b p q B C) : KpM b p q A C := ⟨Nat.le_trans h.size k.size, k.os.trans h.os, k.tape.trans h.tape, k.output.trans h.output, fun i o hi ho h0 h1 h2 => k.same i o (h.same i o hi ho h0 h1 h2) ho h0 h1 h2⟩
theorem KpX.toM {b p q : Nat} {A B : World} (h : KpX p q A B) : KpM b p q A B := ⟨h.size, h.os, h.tape, h.output, fun i o hi ho _ h1 h2 => h.same i o hi ho h1 h2⟩
theorem KpM.of_grown {b p q : Nat} {A B : World} (h : A.grownBy B (some b)) : KpM b p q A B := ⟨h.size, h.os, h.tape, h.output, fun i o hi _ h0 _ _ => by rw [h.block i (Array.getElem?_eq_some_iff.1 hi).1 (fun e => h0 (Option.some.inj e))]; exact hi⟩
theorem KpM.of_below {b p q : Nat} {A B : World} (h : Below A.heap.size A B) : KpM b p q A B := KpM.of_grown (grownB1 h)
theorem KpM.cell {b p q : Nat} {A B : World} (h : KpM b p q A B) {a : Addr} {v : Value} (hc : A.cell? a = some v) (h0 : a.block ≠ b) (h1 : a.block ≠ p) (h2 : a.block ≠ q) : B.cell? a = some v := by
  obtain ⟨o, ho, hi⟩ := cells_of_cell hc
  have e := h.same a.block o ho (.inl hi) h0 h1 h2
  rw [← hc]
  exact World.cell?_of_block (e.trans ho.symm)
def Apart3 (a : Option Addr) (b p q : Nat) : Prop := ∀ y, a = some y → y.block ≠ b ∧ y.block ≠ p ∧ y.block ≠ q
theorem starsM {b p q : Nat} {w w' : World} {a : Option Addr} {L : List St} {n : Nat} (h : Stars w a L n) (hg : KpM b p q w w') (hne : Apart3 a b p q) : Stars w' a L n := by
  rcases h with h | ⟨c, o, rfl, hb, hc⟩
  · exact .inl h
  · obtain ⟨n0, n1, n2⟩ := hne _ rfl
    refine .inr ⟨c, o, rfl, Nat.lt_of_lt_of_le hb hg.size, fun i hi => ?_⟩
    obtain ⟨c0, c1, c2, c3⟩ := hc i hi
    exact ⟨hg.cell c0 n0 n1 n2, hg.cell c1 n0 n1 n2, hg.cell c2 n0 n1 n2, hg.cell c3 n0 n1 n2⟩
theorem dirsM {b p q : Nat} {w w' : World} {a : Option Addr} {L : List D3} {n : Nat} (h : Dirs w a L n) (hg : KpM b p q w w') (hne : Apart3 a b p q) : Dirs w' a L n := by
  rcases h with h | ⟨c, o, rfl, hb, hc⟩
  · exact .inl h
  · obtain ⟨n0, n1, n2⟩ := hne _ rfl
    refine .inr ⟨c, o, rfl, Nat.lt_of_lt_of_le hb hg.size, fun i hi => ?_⟩
    obtain ⟨c0, c1, c2⟩ := hc i hi
    exact ⟨hg.cell c0 n0 n1 n2, hg.cell c1 n0 n1 n2, hg.cell c2 n0 n1 n2⟩
theorem sightsM {b p q : Nat} {w w' : World} {a : Option Addr} {A : List Sg} {n : Nat} (h : Sights w a A n) (hg : KpM b p q w w') (hne : Apart3 a b p q) : Sights w' a A n := by
  rcases h with h | ⟨c, o, rfl, hb, hc⟩
  · exact .inl h
  · obtain ⟨n0, n1, n2⟩ := hne _ rfl
    refine .inr ⟨c, o, rfl, Nat.lt_of_lt_of_le hb hg.size, fun i hi => ?_⟩
    obtain ⟨c0, c1, c2, c3, c4, c5, c6⟩ := hc i hi
    exact ⟨hg.cell c0 n0 n1 n2, hg.cell c1 n0 n1 n2, hg.cell c2 n0 n1 n2, hg.cell c3 n0 n1 n2, hg.cell c4 n0 n1 n2, hg.cell c5 n0 n1 n2, hg.cell c6 n0 n1 n2⟩
theorem NamedAt.isMap {w : World} {b n : Nat} {L : List St} {ids : List Int} (h : NamedAt w b n L ids) : ∃ es c, w.heap[b]? = some (.map es c) := by
  obtain ⟨D, ⟨es, c, hh, _⟩, _⟩ := h
  exact ⟨es, c, hh⟩
def JAb (b : Nat) (J : List (List Int) → World → Prop) : Prop := ∀ pre W W', J pre W → (∃ es c, W.heap[b]? = some (.map es c)) → W.grownBy W' (some b) → J pre W'
def GoOk (L : List St) (S : List D3) (ar br : Option Addr) (cr dr b l p q : Nat) (J : List (List Int) → World → Prop) (r : Nat) : Prop := ∀ (ids : List Int) (pre : List (List Int)) (N n : Nat) (w : World), ids.length + r = S.length → N + 13 ^ r ≤ 100000000 → NamedAt w b N L ids → Stars w ar L L.length → Dirs w br S S.length → p < w.heap.size → q < w.heap.size → J pre w →
    CallsIn Fence.wide n Tryz.prog 217 #[.agg #[.slice ar L.length cr, .slice br S.length dr, .map (some b)], .int .i64 (ids.length : Int), .func (.yield l) #[] #[]] w fun e W' => e = .returned (.bool true) ∧ J (pre ++ allN (fitF L S) (L.map (·.1)) r ids) W' ∧ NamedAt W' b (N + (13 ^ r - 1)) L ids ∧ KpM b p q w W'
theorem goOn_zero (L : List St) (S : List D3) (ar br : Option Addr) (cr dr b l p q : Nat) (J : List (List Int) → World → Prop) (hm : S.length ≤ 6) (hJ : JAb b J) (hY : RoundOk l p q J) (hbp : b ≠ p) (hbq : b ≠ q) : GoOk L S ar br cr dr b l p q J 0 := fun ids pre N n w hl hN13 hN hS hD hp hq hj => by
  refine (goOn_leaf L S ids ar br cr dr b N l p q n (fun pre' W => J pre' W ∧ ∃ es c, W.heap[b]? = some (.map es c)) pre w hm (by omega) hN ⟨hj, hN.isMap⟩ (fun W W' h hB => ?_) (fun m pre' x W h1 hq0 h2 h3 => ?_)).mono fun e W' h => ⟨h.1, h.2.1.1, ?_, h.2.2.toM⟩
  · obtain ⟨es, c, hh⟩ := h.2
    exact ⟨hJ _ _ _ h.1 h.2 (grownB1 hB), es, c, by rw [hB.block b (Array.getElem?_eq_some_iff.1 hh).1]; exact hh⟩
  · obtain ⟨fn, tmps, assign, body, hy, hR⟩ := hY m pre' x W h1.1 (hq0.elim fun W0 h => ⟨W0, h.1.1, h.2⟩) h2 h3
    refine ⟨fn, tmps, assign, body, hy, hR.mono fun e W' h => ⟨h.1, ⟨h.2.1, ?_⟩, h.2.2⟩⟩
    obtain ⟨es, c, hh⟩ := h1.2
    exact ⟨es, c, h.2.2.same b _ hh (.inr rfl) hbp hbq⟩
  · obtain ⟨D, ⟨es, c, hh, rest⟩, hM⟩ := hN
    exact ⟨D, (show W'.ownsMap Tryz.prog 3 starE b N D from ⟨es, c, h.2.2.same b _ hh (.inr rfl) hbp hbq, rest⟩).mono (by omega), hM⟩
attribute [local go_sem] Oper.semAt_some
theorem SrAt.keptM {b p q : Nat} {w w' : World} {c : Nat} {v0 v1 v2 : Value} (h : SrAt w c v0 v1 v2) (hg : KpM b p q w w') (n0 : c ≠ b) (n1 : c ≠ p) (n2 : c ≠ q) : SrAt w' c v0 v1 v2 := ⟨hg.cell h.1 n0 n1 n2, hg.cell h.2.1 n0 n1 n2, hg.cell h.2.2 n0 n1 n2⟩
set_option maxHeartbeats 8000000 in
set_option maxRecDepth 100000 in
theorem goOn_succ (L : List St) (S : List D3) (ar br : Option Addr) (cr dr b l p q r : Nat) (J : List (List Int) → World → Prop) (hk : skyB L = true) (hm : S.length ≤ 6) (hJ : JAb b J) (hbp : b ≠ p) (hbq : b ≠ q) (hA : Apart3 ar b p q) (hB : Apart3 br b p q) (ih : GoOk L S ar br cr dr b l p q J r) : GoOk L S ar br cr dr b l p q J (r + 1) := fun ids pre N n w hl hN13 hN hS hD hp hq hj => by
  have hn12 : L.length ≤ 12 := (sky_ok hk).1
  have B0 := below1 w (.cells #[.slice ar L.length cr, .slice br S.length dr, .map (some b)] 296)
  have C0 : SrAt (w.alloc (.cells #[.slice ar L.length cr, .slice br S.length dr, .map (some b)] 296)) w.heap.size (.slice ar L.length cr) (.slice br S.length dr) (.map (some b)) := by refine ⟨?_, ?_, ?_⟩ <;> simp
  have hbl : b < w.heap.size := by obtain ⟨D, hD, _⟩ := hN; exact hD.lt
  have cA := yz (fun (k : Nat) => (callsIn_wide (n := k)).2 (ahead_any L S ids ids.length ar br L.length cr dr b N _ hm (by omega) (hD.kept B0) (hN.below B0)))
  have HN := yz (hN.below B0)
  have HS := yz (hS.kept B0)
  have HD := yz (hD.kept B0)
  have HJ0 := yz (hJ _ _ _ hj hN.isMap (grownB1 B0))
  have HC := yz C0
  have HB0 := yz B0
  have HIH := yz ih
  have HJA := yz hJ
  have hne : ¬ (ids.length : Int) = (S.length : Int) := by omega
  have e16 : ((ids.length : Int) == (S.length : Int)) = false := by rw [beq_eq_false_iff_ne]; exact hne
  have hsz : (w.alloc (.cells #[.slice ar L.length cr, .slice br S.length dr, .map (some b)] 296)).heap.size = w.heap.size + 1 := by simp
  clear B0 C0 hN hS hD hj ih hJ
  refine callsIn_of_wp Tryz.func217 rfl trivial ?_ rfl
  simp only [Tryz.ntmps217, List.size_toArray, List.length_cons, List.length_nil, Nat.reduceAdd, Nat.reduceSub, Array.replicate_succ, Array.replicate_zero, List.push_toArray, List.append_toArray, List.nil_append, List.cons_append]
  gi_wp2
  refine ⟨trivial, fun h => (by cases h), ?_⟩
  generalize hW : w.alloc (.cells #[.slice ar L.length cr, .slice br S.length dr, .map (some b)] 296) = W at *
  clear hW
  refine (yx cA _).mono ?_
  rintro e w1 ⟨⟨v, rfl, ho⟩, hx⟩
  obtain ⟨av, cv, rfl⟩ := own_form ho
  have HSi := yz (sights_own ho)
  have hcv := own_cap ho (by decide)
  have hcm := own_capMax ho
  have hm9 : maxLen ≤ 9223372036854775807 := by decide +kernel
  have hna := sights_len L S ids ids.length
  have HAp : Hid (Apart3 av b p q) := yz (fun y e => by
    rcases ho.2 with ⟨h1, _⟩ | ⟨g, c', cur, e', hb', _⟩
    · injection h1 with h1; rw [h1] at e; cases e
    · injection e' with e1; rw [e1] at e; cases e; exact ⟨by show g ≠ b; omega, by show g ≠ p; omega, by show g ≠ q; omega⟩)
  have N1 := yz ((yx HN).below hx)
  have S1 := yz ((yx HS).kept hx)
  have D1 := yz ((yx HD).kept hx)
  have J1 := yz (yx HJA _ _ _ (yx HJ0) (yx HN).isMap (grownB1 hx))
  have C1 := yz ((yx HC).kept hx)
  have HK0 := yz (KpM.of_below (b := b) (p := p) (q := q) (below_call (yx HB0) hx))
  have hw1 : w.heap.size + 1 ≤ w1.heap.size := by have := hx.size; omega
  have HFE := yz (fit_same L S ids)
  generalize hsa : sightsTo L S ids ids.length = SA at *
  clear ho hx HN HS HD HJ0 HC HB0 cA hsz hsa
  obtain ⟨c0, c1, c2⟩ := yx C1
  gi_wp2
  clear c0 c1 c2
  gi_loopw [27] (fun i wr => ∃ k : Nat, k ≤ L.length ∧ i = .int .i64 k ∧ Hid (J (pre ++ partN (fitF L S) (L.map (·.1)) r ids k) wr) ∧ Hid (NamedAt wr b (N + k * 13 ^ r) L ids) ∧ Hid (KpM b p q w1 wr)) (fun i _ => L.length - (intOf i).toNat)
  case atStart => exact ⟨0, Nat.zero_le _, rfl, yz (by rw [partN_zero, List.append_nil]; exact yx J1), yz (by rw [Nat.zero_mul]; exact yx N1), yz ⟨Nat.le_refl _, rfl, rfl, rfl, fun _ _ h _ _ _ _ => h⟩⟩
  case round =>
    clear J1 N1
    obtain ⟨k, hkl, rfl, HJr, HNr, HKr⟩ := hrel
    have Sr := yz (starsM (yx S1) (yx HKr) hA)
    have Dr := yz (dirsM (yx D1) (yx HKr) hB)
    have Cr := yz ((yx C1).keptM (yx HKr) (by omega) (by omega) (by omega))
    have Ar := yz (sightsM (yx HSi) (yx HKr) (yx HAp))
    have hwr : w.heap.size + 1 ≤ wr.heap.size := Nat.le_trans hw1 (yx HKr).size
    obtain ⟨c0, c1, c2⟩ := yx Cr
    by_cases hkn : k < L.length
    · obtain ⟨⟨s1, s2, s3, s4⟩, hst⟩ : ∃ z, stA L k = z := ⟨_, rfl⟩
      have hsm1 := star_small hk hkn
      have hat := at_own hk hkn
      have HMA : Hid ((L.map (·.1)).getD k 0 = s1) := yz (by rw [map_at hkn, hst])
      rw [hst] at hsm1 hat
      have HAT := yz hat
      have HS1 := yz hsm1.2
      have hkn2 : (k : Int) < (L.length : Int) := by omega
      rcases yx Sr with h0 | ⟨sb, so, rfl, hsb, hcs⟩
      · omega
      have hstar := hcs k hkn
      rw [hst] at hstar
      obtain ⟨d0, d1, d2, d3⟩ := hstar
      clear hsm1 hat hst hcs
      rcases yx Dr with h0 | ⟨db, do', rfl, hdb, hcd⟩
      · omega
      obtain ⟨⟨v1, v2, v3⟩, hv⟩ : ∃ z, vA S ids.length = z := ⟨_, rfl⟩
      have hdir := hcd ids.length (by omega)
      rw [hv] at hdir
      have HV := yz hv
      obtain ⟨g0, g1, g2⟩ := hdir
      dsimp only at d0 d1 d2 d3 g0 g1 g2
      clear hcd hv
      have hpl : (ids.length : Int) < (S.length : Int) := by omega
      have Z2 := below1 wr (.cells #[.int .i64 s1, .int .i64 s2, .int .i64 s3, .int .i64 s4] 113)
      have E2 := yz (starAt_new wr (s1, s2, s3, s4) 113)
      have HB2 := yz Z2
      have y1 := cellK5 c1 Z2
      have y2 := cellK5 c2 Z2
      have z0 := cellK5 g0 Z2
      have z1 := cellK5 g1 Z2
      have z2 := cellK5 g2 Z2
      clear Z2
      gi_wp2
      clear c0 c1 c2 d0 d1 d2 d3 g0 g1 g2
      generalize hW2 : wr.alloc (.cells #[.int .i64 s1, .int .i64 s2, .int .i64 s3, .int .i64 s4] 113) = W2 at *
      clear hW2
      obtain ⟨e0, e1, e2, e3⟩ := yx E2
      simp only [Nat.zero_add] at e0 e1 e2 e3
      have y1' := fun o => cellK5 y1 (below1 W2 o)
      have z0' := fun o => cellK5 z0 (below1 W2 o)
      have z1' := fun o => cellK5 z1 (below1 W2 o)
      have z2' := fun o => cellK5 z2 (below1 W2 o)
      have e0' := fun o => cellK5 e0 (below1 W2 o)
      have e1' := fun o => cellK5 e1 (below1 W2 o)
      have e2' := fun o => cellK5 e2 (below1 W2 o)
      have e3' := fun o => cellK5 e3 (below1 W2 o)
      gi_region
      have Z3 := (below1 W2 (.cells #[.int .i64 v1, .int .i64 v2, .int .i64 v3, .int .i64 s1, .int .i64 s2, .int .i64 s3, .int .i64 s4] 299))
      have Y3 : Below W2.heap.size W2 (W2.alloc (.cells #[.int .i64 v1, .int .i64 v2, .int .i64 v3, .int .i64 s1, .int .i64 s2, .int .i64 s3, .int .i64 s4] 299)).drew := Z3.drew
      have P3 : Hid (SgAt (W2.alloc (.cells #[.int .i64 v1, .int .i64 v2, .int .i64 v3, .int .i64 s1, .int .i64 s2, .int .i64 s3, .int .i64 s4] 299)).drew W2.heap.size 0 ((v1, v2, v3), (s1, s2, s3, s4))) := yz (sgAt_new W2 ((v1, v2, v3), (s1, s2, s3, s4)) 299)
      have E3 := yz ((yx E2).kept (World.block_lt_of_cell? W2 _ e0) Y3)
      have HB3 := yz (below_call (yx HB2) Y3)
      generalize hW3 : (W2.alloc (.cells #[.int .i64 v1, .int .i64 v2, .int .i64 v3, .int .i64 s1, .int .i64 s2, .int .i64 s3, .int .i64 s4] 299)).drew = W3 at *
      clear hW3 Z3 Y3 y1 y2 z0 z1 z2 e0 e1 e2 e3 y1' z0' z1' z2' e0' e1' e2' e3' E2 HB2
      have J3 := yz (yx HJA _ _ _ (yx HJr) (yx HNr).isMap (grownB1 (yx HB3)))
      have N3 := yz ((yx HNr).below (yx HB3))
      have K3 := yz ((yx HKr).trans (KpM.of_below (b := b) (p := p) (q := q) (yx HB3)))
      have A3 := yz ((yx Ar).kept (yx HB3))
      have C3 := yz ((yx Cr).kept (yx HB3))
      have hw3 : w.heap.size + 1 ≤ W3.heap.size := Nat.le_trans hwr (yx HB3).size
      generalize W2.heap.size = nb at *
      obtain ⟨n0, n1, n2, n3, n4, n5, n6⟩ := yx P3
      simp only [Nat.zero_add] at n0 n1 n2 n3 n4 n5 n6
      have cF := yz (fun (j : Nat) => (callsIn_wide (n := j)).2 (fitsBehind_any SA SA.length ((v1, v2, v3), (s1, s2, s3, s4)) av cv W3 (by omega) hcv (by omega) (yx A3)))
      have HFV : Hid (fitsB SA ((v1, v2, v3), (s1, s2, s3, s4)) SA.length = fitF L S ids s1) := yz (by rw [yx HFE s1, yx HV, yx HAT])
      rw [yx HFV] at cF
      unfold sgV at cF
      dsimp only at cF
      gi_wp2
      refine ⟨trivial, fun h => (by cases h), ?_⟩
      refine (yx cF _).mono ?_
      rintro e W4 ⟨rfl, hx⟩
      have J4 := yz (yx HJA _ _ _ (yx J3) (yx N3).isMap (grownB1 hx))
      have N4 := yz ((yx N3).below hx)
      have K4 := yz ((yx K3).trans (KpM.of_below (b := b) (p := p) (q := q) hx))
      have C4 := yz ((yx C3).kept hx)
      have E4 := yz ((yx E3).kept (World.block_lt_of_cell? W3 _ (yx E3).1) hx)
      have hw4 : w.heap.size + 1 ≤ W4.heap.size := Nat.le_trans hw3 hx.size
      clear hx n0 n1 n2 n3 n4 n5 n6 J3 N3 K3 C3 E3 A3 cF P3 HJr HNr HKr Cr Ar Sr Dr HB3
      cases hfit : fitF L S ids s1
      · have HR : Hid (partN (fitF L S) (L.map (·.1)) r ids (k + 1) = partN (fitF L S) (L.map (·.1)) r ids k) := yz (by rw [partN_succ _ _ _ _ (by rw [List.length_map]; exact hkn), yx HMA, hfit]; simp)
        have J5 : Hid (J (pre ++ partN (fitF L S) (L.map (·.1)) r ids (k + 1)) W4) := yz (by rw [yx HR]; exact yx J4)
        have N5 : Hid (NamedAt W4 b (N + (k + 1) * 13 ^ r) L ids) := yz (by obtain ⟨D, h1, h2⟩ := yx N4; exact ⟨D, h1.mono (Nat.add_le_add_left (Nat.mul_le_mul_right _ (Nat.le_succ k)) _), h2⟩)
        gi_wp2
        go_roundw
        case rel => first | exact ⟨k + 1, by omega, by go_num, J5, N5, K4⟩ | trace_state
        case measure => simp [intOf]; omega
      · have HR : Hid (partN (fitF L S) (L.map (·.1)) r ids (k + 1) = partN (fitF L S) (L.map (·.1)) r ids k ++ allN (fitF L S) (L.map (·.1)) r (ids ++ [s1])) := yz (by rw [partN_succ _ _ _ _ (by rw [List.length_map]; exact hkn), yx HMA, hfit]; rfl)
        obtain ⟨c0, c1, c2⟩ := yx C4
        obtain ⟨e0, e1, e2, e3⟩ := yx E4
        simp only [Nat.zero_add] at e0 e1 e2 e3
        obtain ⟨D, hown, hM⟩ := yx N4
        have hNb : N + k * 13 ^ r < maxLen := by
          have h1 : k * 13 ^ r ≤ 12 * 13 ^ r := Nat.mul_le_mul_right _ (by omega)
          have h2 : 100000000 ≤ maxLen := by decide +kernel
          rw [Nat.pow_succ] at hN13
          have h3 : 0 < 13 ^ r := Nat.pow_pos (by decide)
          generalize 13 ^ r = c at *
          generalize k * c = kc at *
          omega
        gi_wp2_with (gi_at_mapUpdate; refine wpListIn_mapUpdate_own _ rfl _ _ _ 294 rfl 3 113 (Maps.int_keyed Tryz.underlying3) Tryz.underlying294 starE b (N + k * 13 ^ r) D rfl hown hNb _ _ (.int .i64 (ids.length : Int)) rfl rfl (keyI ids.length (by omega)) (starD (s1, s2, s3, s4)) [] (starE_mk (s1, s2, s3, s4)) ?_; intro W5 hown5 hg5; have HU5 := yz hown5; have HG5 := yz hg5; clear hown5 hg5; have C5 := yz ((yx C4).keptM (KpM.of_grown (b := b) (p := p) (q := q) (yx HG5)) (by omega) (by omega) (by omega)); obtain ⟨x0, x1, x2⟩ := yx C5)
        have J5 := yz (yx HJA _ _ _ (yx J4) (yx N4).isMap (yx HG5))
        have K5 := yz ((yx K4).trans (KpM.of_grown (b := b) (p := p) (q := q) (yx HG5)))
        have N5 : Hid (NamedAt W5 b (N + k * 13 ^ r + 1) L (ids ++ [s1])) := yz ⟨_, yx HU5, by
          have h1 := hM.put (a := s1) hown.isMap (yx HS1)
          rw [yx HAT] at h1
          exact h1⟩
        have S5 := yz (starsM (yx S1) (yx K5) hA)
        have D5 := yz (dirsM (yx D1) (yx K5) hB)
        have hw5 : w.heap.size + 1 ≤ W5.heap.size := Nat.le_trans hw4 (yx HG5).size
        have HLN : Hid (((ids ++ [s1]).length : Int) = (ids.length : Int) + 1) := yz (by simp)
        have cI := yz (fun (j : Nat) => yx HIH (ids ++ [s1]) (pre ++ partN (fitF L S) (L.map (·.1)) r ids k) (N + k * 13 ^ r + 1) j W5 (by rw [List.length_append, List.length_singleton]; omega) (by
          have h1 : k * 13 ^ r ≤ 11 * 13 ^ r := Nat.mul_le_mul_right _ (by omega)
          rw [Nat.pow_succ] at hN13
          have h3 : 0 < 13 ^ r := Nat.pow_pos (by decide)
          generalize 13 ^ r = c at *
          generalize k * c = kc at *
          omega) (yx N5) (yx S5) (yx D5) (by omega) (by omega) (yx J5))
        rw [yx HLN] at cI
        clear c0 c1 c2 e0 e1 e2 e3 J4 N4 K4 C4 E4 HU5 hown hM HG5 J5 N5 S5 D5
        refine ⟨trivial, fun h => (by cases h), ?_⟩
        refine (yx cI _).mono ?_
        rintro e W6 ⟨rfl, hJ6, hN6, hK6⟩
        have J6 := yz hJ6
        have K6 := yz ((yx K5).trans hK6)
        have C6 := yz ((yx C5).keptM hK6 (by omega) (by omega) (by omega))
        have N6 := yz hN6
        have hw6 : w.heap.size + 1 ≤ W6.heap.size := Nat.le_trans hw5 hK6.size
        clear x0 x1 x2 hJ6 hN6 hK6 K5 C5 cI
        obtain ⟨x0, x1, x2⟩ := yx C6
        obtain ⟨D6, hown6, hM6⟩ := yx N6
        gi_wp2_with (gi_at_delete; refine wpListIn_delete_own _ rfl _ _ 294 3 rfl 113 (Maps.int_keyed Tryz.underlying3) Tryz.underlying294 starE b _ D6 rfl hown6 _ (.int .i64 (ids.length : Int)) rfl (keyI ids.length (by omega)) ?_; intro W7 hown7 ht7; have HU7 := yz hown7; have HG7 := yz ht7.grown; clear hown7 ht7)
        have J7 : Hid (J (pre ++ partN (fitF L S) (L.map (·.1)) r ids (k + 1)) W7) := yz (by rw [yx HR, ← List.append_assoc]; exact yx HJA _ _ _ (yx J6) (yx N6).isMap (yx HG7))
        have K7 := yz ((yx K6).trans (KpM.of_grown (b := b) (p := p) (q := q) (yx HG7)))
        have N7 : Hid (NamedAt W7 b (N + (k + 1) * 13 ^ r) L ids) := yz ⟨_, (yx HU7).mono (by
          have h3 : 0 < 13 ^ r := Nat.pow_pos (by decide)
          rw [Nat.succ_mul]
          generalize 13 ^ r = c at *
          generalize k * c = kc at *
          omega), hM6.del⟩
        clear x0 x1 x2 J6 K6 C6 N6 hown6 hM6 HU7 HG7
        gi_wp2
        go_roundw
        case rel => first | exact ⟨k + 1, by omega, by go_num, J7, N7, K7⟩ | exact ⟨k + 1, by omega, by go_num, J7, N7⟩ | trace_state
        case measure => simp [intOf]; omega
    · obtain rfl : k = L.length := by omega
      have HLN : Hid (((ids ++ [(0 : Int)]).length : Int) = (ids.length : Int) + 1) := yz (by simp)
      have N5 : Hid (NamedAt wr b (N + L.length * 13 ^ r) L (ids ++ [0])) := yz (by obtain ⟨D, h1, h2⟩ := yx HNr; exact ⟨D, h1, h2.snoc0⟩)
      have cI := yz (fun (j : Nat) => yx HIH (ids ++ [0]) (pre ++ partN (fitF L S) (L.map (·.1)) r ids L.length) (N + L.length * 13 ^ r) j wr (by rw [List.length_append, List.length_singleton]; omega) (by
        have h1 : L.length * 13 ^ r ≤ 12 * 13 ^ r := Nat.mul_le_mul_right _ hn12
        rw [Nat.pow_succ] at hN13
        generalize 13 ^ r = c at *
        generalize L.length * c = kc at *
        omega) (yx N5) (yx Sr) (yx Dr) (by omega) (by omega) (yx HJr))
      rw [yx HLN] at cI
      gi_wp2
      refine ⟨trivial, fun h => (by cases h), ?_⟩
      refine (yx cI _).mono ?_
      rintro e W6 ⟨rfl, hJ6, hN6, hK6⟩
      have J6 := yz hJ6
      have N6 := yz hN6
      have K6 := yz (((yx HK0).trans (yx HKr)).trans hK6)
      clear hJ6 hN6 hK6 cI N5 c0 c1 c2
      gi_wp2
      go_ret
      refine ⟨rfl, ?_, ?_, yx K6⟩
      · rw [allN_node, ← List.append_assoc, List.length_map]
        exact yx J6
      · obtain ⟨D, h1, h2⟩ := yx N6
        refine ⟨D, h1.mono ?_, fun i hi => ?_⟩
        · have h3 : L.length * 13 ^ r ≤ 12 * 13 ^ r := Nat.mul_le_mul_right _ hn12
          have h4 : 0 < 13 ^ r := Nat.pow_pos (by decide)
          rw [Nat.pow_succ]
          generalize 13 ^ r = c at *
          generalize L.length * c = kc at *
          omega
        · have h5 := h2 i hi
          unfold nameSt at h5 ⊢
          rw [getD_snoc0] at h5
          exact h5
theorem goOn_all (L : List St) (S : List D3) (ar br : Option Addr) (cr dr b l p q : Nat) (J : List (List Int) → World → Prop) (hk : skyB L = true) (hm : S.length ≤ 6) (hJ : JAb b J) (hY : RoundOk l p q J) (hbp : b ≠ p) (hbq : b ≠ q) (hA : Apart3 ar b p q) (hB : Apart3 br b p q) : ∀ r, GoOk L S ar br cr dr b l p q J r
  | 0 => goOn_zero L S ar br cr dr b l p q J hm hJ hY hbp hbq
  | r + 1 => goOn_succ L S ar br cr dr b l p q r J hk hm hJ hbp hbq hA hB (goOn_all L S ar br cr dr b l p q J hk hm hJ hY hbp hbq hA hB r)
attribute [local go_sem] Oper.semAt_some
theorem namedAt_made (w : World) (L : List St) : NamedAt (w.alloc (.map #[] 0)) w.heap.size 0 L [] := ⟨.map [], World.ownsMap_made w _ _ _, fun i hi => ⟨by simp [Maps.has], by unfold nameSt; simp; rfl⟩⟩
set_option maxHeartbeats 4000000 in
set_option maxRecDepth 100000 in
theorem clos_in (L : List St) (S : List D3) (ar br : Option Addr) (cr dr l p q s1 s2 n : Nat) (J : List (List Int) → World → Prop) (W : World) (hk : skyB L = true) (hm : S.length ≤ 6) (h1 : W.cell? ⟨s1, 0, none⟩ = some (.slice ar L.length cr)) (h2 : W.cell? ⟨s2, 0, none⟩ = some (.slice br S.length dr)) (hS : Stars W ar L L.length) (hD : Dirs W br S S.length) (hA : ∀ y, ar = some y → y.block < W.heap.size ∧ y.block ≠ p ∧ y.block ≠ q) (hB : ∀ y, br = some y → y.block < W.heap.size ∧ y.block ≠ p ∧ y.block ≠ q) (hp : p < W.heap.size) (hq : q < W.heap.size)
    (hJ : ∀ b, W.heap.size ≤ b → JAb b J) (hJn : ∀ pre W1 W2, J pre W1 → Below W1.heap.size W1 W2 → J pre W2) (hY : RoundOk l p q J) (h0 : J [] W) :
    CallsIn Fence.wide n Tryz.prog 216 #[.func (.yield l) #[] #[], .pointer (some ⟨s1, 0, none⟩), .pointer (some ⟨s2, 0, none⟩)] W fun e W' => (∃ v, e = .returned v) ∧ J (allN (fitF L S) (L.map (·.1)) S.length []) W' := by
  have hmm := @run_makeMap Tryz.prog
  refine callsIn_of_wp Tryz.func216 rfl trivial ?_ rfl
  simp only [Tryz.ntmps216, List.size_toArray, List.length_cons, List.length_nil, Nat.reduceAdd, Nat.reduceSub, Array.replicate_succ, Array.replicate_zero, List.push_toArray, List.append_toArray, List.nil_append, List.cons_append]
  gi_wp2
  refine ⟨trivial, fun h => (by cases h), ?_⟩
  have B1 := below2 W (.map #[] 0) (.cells #[.slice ar L.length cr, .slice br S.length dr, .map (some W.heap.size)] 296)
  have N1 := (namedAt_made W L).below (below1 _ (.cells #[.slice ar L.length cr, .slice br S.length dr, .map (some W.heap.size)] 296))
  have hz : ((W.alloc (.map #[] 0)).alloc (.cells #[.slice ar L.length cr, .slice br S.length dr, .map (some W.heap.size)] 296)).heap.size = W.heap.size + 2 := by simp
  refine (goOn_all L S ar br cr dr W.heap.size l p q J hk hm (hJ _ (Nat.le_refl _)) hY (by omega) (by omega) (fun y e => ⟨by have := (hA y e).1; omega, (hA y e).2⟩) (fun y e => ⟨by have := (hB y e).1; omega, (hB y e).2⟩) S.length [] [] 0 _ _ (by simp) (by have : 13 ^ S.length ≤ 13 ^ 6 := Nat.pow_le_pow_right (by decide) hm; omega) N1 (hS.kept B1) (hD.kept B1) (by omega) (by omega) (hJn _ _ _ h0 B1)).mono ?_
  rintro e W2 ⟨rfl, hJ2, _, _⟩
  have HJ2 := yz hJ2
  clear hJ2 N1 B1
  gi_wp2
  go_end0
  exact ⟨⟨_, rfl⟩, by simpa using yx HJ2⟩
end Go.Proofs.YteoonaanoenjiaaGreatDoor
