/- The program's search: who is named so far, as a list. -/
import Derived.Test.YtjdehbpgdplolaaDoorIeG
namespace Go.Proofs.YtjdehbpgdplolaaDoor
open Go.RowKit Go.Sort
set_option linter.unusedVariables false

theorem name_id (L : List St) (ids : List Int) (i : Nat) : (nameSt L ids i).1 = ids.getD i 0 := by
  unfold nameSt
  split
  · rfl
  · rename_i h
    have h0 : ids.getD i 0 = 0 := by simpa using h
    rw [h0]
    rfl
theorem NamedAt.below {w w' : World} {b n : Nat} {L : List St} {ids : List Int} (h : NamedAt w b n L ids) (hB : Below w.heap.size w w') : NamedAt w' b n L ids := h.kept (row := none) ⟨hB.os, hB.tape, hB.output, hB.size, fun k hk _ => hB.block k hk⟩ (by simp)
def SrAt (w : World) (b : Nat) (v0 v1 v2 : Value) : Prop := w.cell? ⟨b, 0, none⟩ = some v0 ∧ w.cell? ⟨b, 1, none⟩ = some v1 ∧ w.cell? ⟨b, 2, none⟩ = some v2
theorem SrAt.kept {w w' : World} {b : Nat} {v0 v1 v2 : Value} (h : SrAt w b v0 v1 v2) (hB : Below w.heap.size w w') : SrAt w' b v0 v1 v2 := ⟨cellK5 h.1 hB, cellK5 h.2.1 hB, cellK5 h.2.2 hB⟩

set_option maxHeartbeats 2000000 in
set_option maxRecDepth 100000 in
theorem ids_any (L : List St) (ids : List Int) (m : Nat) (ar br : Option Addr) (nl cr dr b N : Nat) (w : World) (hm : m ≤ 6) (hN : NamedAt w b N L ids) :
    Calls Tryd.prog 55 #[.agg #[.slice ar nl cr, .slice br m dr, .map (some b)]] w fun e w' => e = .returned (.slice (some ⟨w.heap.size + 1, 0, none⟩) m m) ∧ RowV w' 2 (w.heap.size + 1) (m * 1) (numV ids) ∧ Below w.heap.size w w' := by
  have B0 := below1 w (.cells #[.slice ar nl cr, .slice br m dr, .map (some b)] 78)
  have C0 : SrAt (w.alloc (.cells #[.slice ar nl cr, .slice br m dr, .map (some b)] 78)) w.heap.size (.slice ar nl cr) (.slice br m dr) (.map (some b)) := by refine ⟨?_, ?_, ?_⟩ <;> simp
  have HN := hide (hN.below B0)
  have HC := hide C0
  have HB := hide B0
  have hsz : (w.alloc (.cells #[.slice ar nl cr, .slice br m dr, .map (some b)] 78)).heap.size = w.heap.size + 1 := by simp
  clear B0 C0 hN
  obtain ⟨i0, hi, hz0, hz1, hz2⟩ := info_parts info_i64
  go_enter Tryd.func55, Tryd.ntmps55
  go_wp2_with (at_make; refine wpList_make_full _ rfl _ _ 26 rfl (w.heap.size + 1) 2 i0 (.int .i64 0) 1 Tryd.underlying26 hi hz0 hz1 .i64 .i64 _ _ m rfl rfl rfl rfl (by rw [hz2]; omega) (by unfold maxLen; omega) (by simp) ?_; intro w0 hown0 hgrow0)
  have hzero : ∀ j, j < m * 1 → (madeCells (Value.int .i64 0).cells (m * 1)).toList[j]? = some (.int .i64 0) := by
    intro j hj
    have e : (Value.int .i64 0).cells = #[.int .i64 0] := rfl
    rw [e, toList_madeCells_one]
    simp at hj
    simp [hj]
  have H0 : Hid (RowV w0 2 (w.heap.size + 1) (m * 1) (fun j => if j < 0 then numV ids j else .int .i64 0)) := hide (by
    have h := RowV.made (v := .nilIface) hown0 hzero
    rw [hsz] at h
    exact h.congr (fun j hj => by rw [if_neg (by omega)]))
  have hb0 := below_grownN hgrow0
  have HB0 := hide (below_call (unhide HB) hb0)
  have HN0 := hide ((unhide HN).below hb0)
  have HC0 := hide ((unhide HC).kept hb0)
  clear hown0 hgrow0 hzero hb0 HB HN HC hsz
  go_loopw [11] (fun i wr => ∃ k : Nat, k ≤ m ∧ i = .int .i64 k ∧ Hid (RowV wr 2 (w.heap.size + 1) (m * 1) (fun j => if j < k then numV ids j else .int .i64 0)) ∧ Hid (Below w.heap.size w wr) ∧ Hid (NamedAt wr b N L ids) ∧ Hid (SrAt wr w.heap.size (.slice ar nl cr) (.slice br m dr) (.map (some b)))) (fun i _ => m - (intOf i).toNat)
  case atStart => exact ⟨0, by omega, rfl, H0, HB0, HN0, HC0⟩
  case round =>
    clear H0 HB0 HN0 HC0
    obtain ⟨k, hk, rfl, HO, HB, HN, HC⟩ := hrel
    by_cases hkn : k < m
    · have hr := (unhide HN).look k (by omega)
      have HID : Hid (numV ids k = .int .i64 (nameSt L ids k).1) := hide (by rw [name_id]; rfl)
      generalize nameSt L ids k = q at *
      obtain ⟨q1, q2, q3, q4⟩ := q
      unfold stV at hr
      dsimp only at hr HID
      have hkn2 : (k : Int) < (m : Int) := by omega
      have hfld : ∀ W : World, (Instr.field 46 (.agg #[.int .i64 q1, .int .i64 q2, .int .i64 q3, .int .i64 q4]) 0).run Tryd.prog W = .ok (.int .i64 q1) W := fun W => by kernel_rfl
      have e0 := (unhide HO).cell (j := k) (by omega)
      have f0 := (unhide HO).free k
      rw [if_neg (by omega)] at e0
      have hbN : b ≠ w.heap.size + 1 := fun e => by
        obtain ⟨D, ⟨es, cl, hh, _⟩, _⟩ := unhide HN
        obtain ⟨cur, hc, _⟩ := unhide HO
        rw [e, hc] at hh
        cases hh
      have HO3 : Hid (RowV (wr.setCell ⟨w.heap.size + 1, k, none⟩ (.int .i64 q1)) 2 (w.heap.size + 1) (m * 1) (fun j => if j < k + 1 then numV ids j else .int .i64 0)) := hide (((unhide HO).set k (.int .i64 q1)).congr (fun j hj => by
        by_cases h : j = k
        · rw [if_pos h, if_pos (by omega), h, unhide HID]
        · rw [if_neg h]
          by_cases h2 : j < k
          · rw [if_pos h2, if_pos (by omega)]
          · rw [if_neg h2, if_neg (by omega)]))
      have HB3 := hide ((unhide HB).setCell (show w.heap.size ≤ w.heap.size + 1 by omega) (.int .i64 q1) : Below w.heap.size w (wr.setCell ⟨w.heap.size + 1, k, none⟩ (.int .i64 q1)))
      have HN3 : Hid (NamedAt (wr.setCell ⟨w.heap.size + 1, k, none⟩ (.int .i64 q1)) b N L ids) := hide ((unhide HN).kept (row := some (w.heap.size + 1)) (grownSet (grownRefl wr _) k (.int .i64 q1)) (fun e => hbN (Option.some.inj e)))
      obtain ⟨c0, c1, c2⟩ := unhide HC
      have HC3 : Hid (SrAt (wr.setCell ⟨w.heap.size + 1, k, none⟩ (.int .i64 q1)) w.heap.size (.slice ar nl cr) (.slice br m dr) (.map (some b))) := hide (by
        have hne : some w.heap.size ≠ some (w.heap.size + 1) := fun e => by have := Option.some.inj e; omega
        exact ⟨cellG5 c0 (grownSet (grownRefl wr _) k (.int .i64 q1)) hne, cellG5 c1 (grownSet (grownRefl wr _) k (.int .i64 q1)) hne, cellG5 c2 (grownSet (grownRefl wr _) k (.int .i64 q1)) hne⟩)
      clear HO HB HN HC hbN
      go_wp2_with fail
      go_roundw
      case rel => first | exact ⟨k + 1, by omega, by go_num, HO3, HB3, HN3, HC3⟩ | trace_state
      case measure => simp [intOf]; omega
    · have hkn' : k = m := by omega
      subst hkn'
      go_wp2_with fail
      go_ret
      exact ⟨rfl, (unhide HO).congr (fun j hj => if_pos (by omega)), unhide HB⟩
end Go.Proofs.YtjdehbpgdplolaaDoor
