/- Several texts in one: IeH, IeI, IeJ, IeK, IeL, IeN, IeO. -/
import Derived.RangeFuncNested
import Derived.RangeFuncBound
import Derived.RangeFuncCalls
import Derived.RangeFuncLeaves
import Derived.Shelf.Abstract
import Derived.Shelf.RegionOpen
import Derived.WalkKit
import Derived.OwnWalkIn
import Derived.TacticsInMore
import Derived.LoopNIn
import Derived.LoopIn
import Derived.Maps.OwnIn
import Derived.BigRegionIn
import Derived.Test.YtlleafjdgblhcaaGreatDoorQDeskRunOwn12
import Derived.Test.YtlleafjdgblhcaaGreatDoorQDeskRunOwn1
namespace Go.Proofs.YtlleafjdgblhcaaGreatDoor
set_option linter.unusedVariables false
set_option linter.unusedSimpArgs false
set_option maxRecDepth 100000
set_option maxHeartbeats 8000000
section
open Go.RowKit Go.Sort
theorem Ds (L : List St) (ids : List Int) (i : Nat) : (ef L ids i).1 = ids.getD i 0 := by
 unfold ef
 split
 ·rfl
 ·rename_i h
  have h0 : ids.getD i 0 = 0 := by simpa using h
  rw [h0]
  rfl
theorem bF.below {w w' : World} {b n : Nat} {L : List St} {ids : List Int} (h : bF w b n L ids) (hB : Below w.heap.size w w') : bF w' b n L ids := h.kept (row := none) ⟨hB.os, hB.tape, hB.output, hB.size, fun k hk _ => hB.block k hk⟩ (by simp)
def pK (w : World) (b : Nat) (v0 v1 v2 : Value) : Prop := w.cell? ⟨b, 0, none⟩ = some v0 ∧ w.cell? ⟨b, 1, none⟩ = some v1 ∧ w.cell? ⟨b, 2, none⟩ = some v2
theorem pK.kept {w w' : World} {b : Nat} {v0 v1 v2 : Value} (h : pK w b v0 v1 v2) (hB : Below w.heap.size w w') : pK w' b v0 v1 v2 := ⟨bq h.1 hB, bq h.2.1 hB, bq h.2.2 hB⟩
theorem CX (L : List St) (ids : List Int) (m : Nat) (ar br : Option Addr) (nl cr dr b N : Nat) (w : World) (hm : m ≤ 6) (hN : bF w b N L ids) :
  Calls Tryz.prog 166 #[.agg #[.slice ar nl cr, .slice br m dr, .map (some b)]] w fun e w' => e = .returned (.slice (some ⟨w.heap.size + 1, 0, none⟩) m m) ∧ cH w' 2 (w.heap.size + 1) (m * 1) (qJ ids) ∧ Below w.heap.size w w' := by
 have B0 := an w (.cells #[.slice ar nl cr, .slice br m dr, .map (some b)] 201)
 have C0 : pK (w.alloc (.cells #[.slice ar nl cr, .slice br m dr, .map (some b)] 201)) w.heap.size (.slice ar nl cr) (.slice br m dr) (.map (some b)) := by refine ⟨?_, ?_, ?_⟩ <;> simp
 have HN := yz (hN.below B0)
 have HC := yz C0
 have HB := yz B0
 have hsz : (w.alloc (.cells #[.slice ar nl cr, .slice br m dr, .map (some b)] 201)).heap.size = w.heap.size + 1 := by simp
 clear B0 C0 hN
 obtain ⟨i0, hi, hz0, hz1, hz2⟩ := info_parts kp
 go_enter Tryz.func166, Tryz.ntmps166
 go_wp2_with (at_make; refine wpList_make_full _ rfl _ _ 67 rfl (w.heap.size + 1) 2 i0 (.int .i64 0) 1 Tryz.underlying67 hi hz0 hz1 .i64 .i64 _ _ m rfl rfl rfl rfl (by rw [hz2]; omega) (by unfold maxLen; omega) (by simp) ?_; intro w0 hown0 hgrow0)
 have hzero : ∀ j, j < m * 1 → (madeCells (Value.int .i64 0).cells (m * 1)).toList[j]? = some (.int .i64 0) := by
  intro j hj
  have e : (Value.int .i64 0).cells = #[.int .i64 0] := rfl
  rw [e, toList_madeCells_one]
  simp at hj
  simp [hj]
 have H0 : Hid (cH w0 2 (w.heap.size + 1) (m * 1) (fun j => if j < 0 then qJ ids j else .int .i64 0)) := yz (by
  have h := cH.made (v := .nilIface) hown0 hzero
  rw [hsz] at h
  exact h.congr (fun j hj => by rw [if_neg (by omega)]))
 have hb0 := jt hgrow0
 have HB0 := yz (ak (yy HB) hb0)
 have HN0 := yz ((yy HN).below hb0)
 have HC0 := yz ((yy HC).kept hb0)
 clear hown0 hgrow0 hzero hb0 HB HN HC hsz
 go_loopw [11] (fun i wr => ∃ k : Nat, k ≤ m ∧ i = .int .i64 k ∧ Hid (cH wr 2 (w.heap.size + 1) (m * 1) (fun j => if j < k then qJ ids j else .int .i64 0)) ∧ Hid (Below w.heap.size w wr) ∧ Hid (bF wr b N L ids) ∧ Hid (pK wr w.heap.size (.slice ar nl cr) (.slice br m dr) (.map (some b)))) (fun i _ => m - (intOf i).toNat)
 case atStart => exact ⟨0, by omega, rfl, H0, HB0, HN0, HC0⟩
 case round =>
  clear H0 HB0 HN0 HC0
  obtain ⟨k, hk, rfl, HO, HB, HN, HC⟩ := hrel
  by_cases hkn : k < m
  ·have hr := (yy HN).look k (by omega)
   have HID : Hid (qJ ids k = .int .i64 (ef L ids k).1) := yz (by rw [Ds]; rfl)
   generalize ef L ids k = q at *
   obtain ⟨q1, q2, q3, q4⟩ := q
   unfold stV at hr
   dsimp only at hr HID
   have hkn2 : (k : Int) < (m : Int) := by omega
   have hfld : ∀ W : World, (Instr.field 60 (.agg #[.int .i64 q1, .int .i64 q2, .int .i64 q3, .int .i64 q4]) 0).run Tryz.prog W = .ok (.int .i64 q1) W := fun W => by kernel_rfl
   have e0 := (yy HO).cell (j := k) (by omega)
   have f0 := (yy HO).free k
   rw [if_neg (by omega)] at e0
   have hbN : b ≠ w.heap.size + 1 := fun e => by
    obtain ⟨D, ⟨es, cl, hh, _⟩, _⟩ := yy HN
    obtain ⟨cur, hc, _⟩ := yy HO
    rw [e, hc] at hh
    cases hh
   have HO3 : Hid (cH (wr.setCell ⟨w.heap.size + 1, k, none⟩ (.int .i64 q1)) 2 (w.heap.size + 1) (m * 1) (fun j => if j < k + 1 then qJ ids j else .int .i64 0)) := yz (((yy HO).set k (.int .i64 q1)).congr (fun j hj => by
    by_cases h : j = k
    ·rw [if_pos h, if_pos (by omega), h, yy HID]
    ·rw [if_neg h]
     by_cases h2 : j < k
     ·rw [if_pos h2, if_pos (by omega)]
     ·rw [if_neg h2, if_neg (by omega)]))
   have HB3 := yz ((yy HB).setCell (show w.heap.size ≤ w.heap.size + 1 by omega) (.int .i64 q1) : Below w.heap.size w (wr.setCell ⟨w.heap.size + 1, k, none⟩ (.int .i64 q1)))
   have HN3 : Hid (bF (wr.setCell ⟨w.heap.size + 1, k, none⟩ (.int .i64 q1)) b N L ids) := yz ((yy HN).kept (row := some (w.heap.size + 1)) (jX (gP wr _) k (.int .i64 q1)) (fun e => hbN (Option.some.inj e)))
   obtain ⟨c0, c1, c2⟩ := yy HC
   have HC3 : Hid (pK (wr.setCell ⟨w.heap.size + 1, k, none⟩ (.int .i64 q1)) w.heap.size (.slice ar nl cr) (.slice br m dr) (.map (some b))) := yz (by
    have hne : some w.heap.size ≠ some (w.heap.size + 1) := fun e => by have := Option.some.inj e; omega
    exact ⟨dU c0 (jX (gP wr _) k (.int .i64 q1)) hne, dU c1 (jX (gP wr _) k (.int .i64 q1)) hne, dU c2 (jX (gP wr _) k (.int .i64 q1)) hne⟩)
   clear HO HB HN HC hbN
   go_wp2_with fail
   go_roundw
   case rel => first | exact ⟨k + 1, by omega, by go_num, HO3, HB3, HN3, HC3⟩ | trace_state
   case measure => simp [intOf]; omega
  ·have hkn' : k = m := by omega
   subst hkn'
   go_wp2_with fail
   go_ret
   exact ⟨rfl, (yy HO).congr (fun j hj => if_pos (by omega)), yy HB⟩
end
section
open Go.RowKit Go.Sort
theorem zz (L : List St) (S : List D3) (ids : List Int) (n : Nat) (ar br : Option Addr) (nl cr dr b N : Nat) (w : World) (hm : S.length ≤ 6) (hn : n ≤ S.length) (hD : cf w br S S.length) (hN : bF w b N L ids) :
  Calls Tryz.prog 167 #[.agg #[.slice ar nl cr, .slice br S.length dr, .map (some b)], .int .i64 (n : Int)] w fun e w' => (∃ v, e = .returned v ∧ w'.ownsRow (w.heap.size + 1) 228 7 v (au L S ids n).length (cq (au L S ids n))) ∧ Below w.heap.size w w' := by
 obtain ⟨i0, hinf, hz0, hz1, hz2⟩ := info_parts oV
 have hm8 : 1000 ≤ maxLen := by decide +kernel
 have B0 := an w (.cells #[.slice ar nl cr, .slice br S.length dr, .map (some b)] 201)
 have C0 : pK (w.alloc (.cells #[.slice ar nl cr, .slice br S.length dr, .map (some b)] 201)) w.heap.size (.slice ar nl cr) (.slice br S.length dr) (.map (some b)) := by refine ⟨?_, ?_, ?_⟩ <;> simp
 have HSn := yz (fy L S ids)
 have HLE := yz (hZ L S ids)
 have HSO : Hid (∀ i, bL L S ids i = (vA S i, (ids.getD i 0, atV L L.length (ids.getD i 0)))) := yz (fun i => rfl)
 have HNS : Hid (∀ i, ids.getD i 0 ≠ 0 → ef L ids i = (ids.getD i 0, atV L L.length (ids.getD i 0))) := yz (fun i h => by unfold ef; rw [if_pos h])
 have HNZ : Hid (∀ i, ids.getD i 0 = 0 → ef L ids i = (0, 0, 0, 0)) := yz (fun i h => by unfold ef; rw [if_neg (by simpa using h)]; rfl)
 have HD := yz (hD.kept B0)
 have HN0 := yz (hN.below B0)
 have HC0 := yz C0
 have HB0 := yz B0
 have hsz : (w.alloc (.cells #[.slice ar nl cr, .slice br S.length dr, .map (some b)] 201)).heap.size = w.heap.size + 1 := by simp
 clear B0 C0 hD hN
 generalize hme : S.length = m at *
 go_enter Tryz.func167, Tryz.ntmps167
 go_wp2_with fail
 generalize hW : w.alloc (.cells #[.slice ar nl cr, .slice br m dr, .map (some b)] 201) = W at *
 clear hW
 go_loopw [5, 10] (fun v kk wr => ∃ i : Nat, i ≤ n ∧ kk = .int .i64 i ∧ Hid (wr.ownsRow (w.heap.size + 1) 228 7 v (au L S ids i).length (cq (au L S ids i))) ∧ Hid (Below W.heap.size W wr)) (fun _ kk _ => n - (intOf kk).toNat)
 case atStart => exact ⟨0, by omega, rfl, yz (World.ownsRow_nil _ _ _ _), yz (Below.refl _ _)⟩
 case round =>
  obtain ⟨i, hi, rfl, HO, HB⟩ := hrel
  by_cases hin : i < n
  ·have hin2 : (i : Int) < (n : Int) := by omega
   have hr := ((yy HN0).below (yy HB)).lookOk i (by omega)
   obtain ⟨c0, c1, c2⟩ := (yy HC0).kept (yy HB)
   have HSN := yz (yy HSn i)
   have HSI := yz (yy HSO i)
   have hns := yy HNS i
   have hnz := yy HNZ i
   have hle := yy HLE i
   generalize ids.getD i 0 = id at *
   by_cases hid : id = 0
   ·subst hid
    rw [hnz rfl] at hr
    unfold stV at hr
    simp only [ne_eq, not_true_eq_false, decide_false] at hr
    rw [if_neg (by simp), List.append_nil] at HSN
    have Z := an wr (.cells #[.int .i64 0, .int .i64 0, .int .i64 0, .int .i64 0] 60)
    have HO3 : Hid ((wr.alloc (.cells #[.int .i64 0, .int .i64 0, .int .i64 0, .int .i64 0] 60)).ownsRow (w.heap.size + 1) 228 7 u5 (au L S ids (i + 1)).length (cq (au L S ids (i + 1)))) := yz (by rw [yy HSN]; exact iD (yy HO) Z)
    have HB3 := yz (ak (yy HB) Z)
    clear Z HO HB hns hnz
    go_wp2_with fail
    go_roundw
    case rel => first | exact ⟨i + 1, by omega, by go_num, HO3, HB3⟩ | trace_state
    case measure => simp [intOf] <;> omega
   ·have hid' : decide (id ≠ 0) = true := by simp [hid]
    rw [hns hid, hid'] at hr
    rw [if_pos hid, yy HSI] at HSN
    clear HSI hns hnz
    generalize atV L L.length id = q at *
    obtain ⟨q1, q2, q3⟩ := q
    unfold stV at hr
    dsimp only at hr
    have HU : Hid (∀ z, u5.ownBlock = some z → w.heap.size + 1 ≤ z ∧ z < wr.heap.size) := yz (fun z e => (yy HO).lt z e)
    have Z := an wr (.cells #[.int .i64 id, .int .i64 q1, .int .i64 q2, .int .i64 q3] 60)
    have HO2 := yz (iD (yy HO) Z)
    have HB2 := yz (ak (yy HB) Z)
    have N2 := yz (fk wr (id, q1, q2, q3) 60)
    clear Z HO HB
    go_wp2_with fail
    clear c0 c1 c2 hr
    generalize wr.alloc (.cells #[.int .i64 id, .int .i64 q1, .int .i64 q2, .int .i64 q3] 60) = W2 at HO2 HB2 N2 ⊢
    generalize wr.heap.size = tb at *
    rcases yy HD with h | ⟨bb, bo, rfl, hbb, hbc⟩
    ·omega
    have hst := (hbc i (by omega)).kept hbb (yy HB2)
    obtain ⟨_, x1, _⟩ := (yy HC0).kept (yy HB2)
    clear hbc
    generalize vA S i = sv at *
    obtain ⟨v1, v2, v3⟩ := sv
    obtain ⟨c0, c1, c2⟩ := hst
    obtain ⟨d0, d1, d2, d3⟩ := yy N2
    simp only [Nat.zero_add] at d0 d1 d2 d3
    simp only at c0 c1 c2
    have him : (i : Int) < (m : Int) := by omega
    refine wp_region_held_drew (S := (fun w' => w'.cell? ⟨w.heap.size, 1, none⟩ = some (.slice (some ⟨bb, bo, none⟩) m dr) ∧ (w'.cell? ⟨bb, bo + i * 3, none⟩ = some (.int .i64 v1) ∧ w'.cell? ⟨bb, bo + i * 3 + 1, none⟩ = some (.int .i64 v2) ∧ w'.cell? ⟨bb, bo + i * 3 + 2, none⟩ = some (.int .i64 v3)) ∧ w'.cell? ⟨tb, 0, none⟩ = some (.int .i64 id) ∧ w'.cell? ⟨tb, 1, none⟩ = some (.int .i64 q1) ∧ w'.cell? ⟨tb, 2, none⟩ = some (.int .i64 q2) ∧ w'.cell? ⟨tb, 3, none⟩ = some (.int .i64 q3))) (by kernel_rfl) ?_ (fun hHeld => ?_)
    ·exact ⟨x1, ⟨c0, c1, c2⟩, d0, d1, d2, d3⟩
    refine ac 0 rfl ?_
    try simp only [Act.put, ah, ai, aj]
    refine ac 1 rfl ?_
    try simp only [Act.put, ah, ai, aj]
    refine ac 2 rfl ?_
    try simp only [Act.put, ah, ai, aj]
    refine ac 3 rfl ?_
    try simp only [Act.put, ah, ai, aj]
    refine ac 4 rfl ?_
    try simp only [Act.put, ah, ai, aj]
    refine ac 5 rfl ?_
    try simp only [Act.put, ah, ai, aj]
    refine ac 6 rfl ?_
    try simp only [Act.put, ah, ai, aj]
    refine ac 7 rfl ?_
    try simp only [Act.put, ah, ai, aj]
    have HK : Hid (∀ W' : World, Below W2.heap.size W2 W' → (W'.cell? ⟨w.heap.size, 1, none⟩ = some (.slice (some ⟨bb, bo, none⟩) m dr) ∧ (W'.cell? ⟨bb, bo + i * 3, none⟩ = some (.int .i64 v1) ∧ W'.cell? ⟨bb, bo + i * 3 + 1, none⟩ = some (.int .i64 v2) ∧ W'.cell? ⟨bb, bo + i * 3 + 2, none⟩ = some (.int .i64 v3)) ∧ W'.cell? ⟨tb, 0, none⟩ = some (.int .i64 id) ∧ W'.cell? ⟨tb, 1, none⟩ = some (.int .i64 q1) ∧ W'.cell? ⟨tb, 2, none⟩ = some (.int .i64 q2) ∧ W'.cell? ⟨tb, 3, none⟩ = some (.int .i64 q3))) := yz (fun W' h => ⟨bq x1 h, ⟨bq c0 h, bq c1 h, bq c2 h⟩, bq d0 h, bq d1 h, bq d2 h, bq d3 h⟩)
    have HOd : Hid (W2.drew.ownsRow (w.heap.size + 1) 228 7 u5 (au L S ids i).length (cq (au L S ids i))) := HO2
    have HBd := yz ((Below.refl W2.heap.size W2).drew)
    clear c0 c1 c2 d0 d1 d2 d3 x1 N2
    refine af 8 rfl fun K hK => ?_
    go_simp
    have Z5 := an W2.drew (.cells #[.int .i64 v1, .int .i64 v2, .int .i64 v3, .int .i64 id, .int .i64 q1, .int .i64 q2, .int .i64 q3] 228)
    have hown := iD (yy HOd) Z5
    have HB5 := yz (ak (yy HBd) Z5)
    have hszd : W2.drew.heap.size = W2.heap.size := rfl
    have hbW : W.heap.size ≤ W2.heap.size := (yy HB2).size
    clear Z5 HOd HBd
    refine hK.out _ _ (yy HK _ (yy HB5)) (fun hHeld3 => ?_)
    clear hK K hHeld
    refine af 9 rfl fun K hK => ?_
    refine mH rfl _ _ 225 rfl (w.heap.size + 1) 228 i0 (.agg #[.int .i64 0, .int .i64 0, .int .i64 0, .int .i64 0, .int .i64 0, .int .i64 0, .int .i64 0]) 7 56 Tryz.underlying225 hinf hz0 hz1 hz2 rfl (by decide) _ _ _ rfl hown ⟨W2.drew.heap.size, 0, none⟩ 1 1 (cq [((v1, v2, v3), (id, q1, q2, q3))]) rfl rfl ?d2 (fun u hu => nM hu) ?d3 ?d4 ?d5 ?_
    case d2 => first | exact fun j u h => h | exact iR _ _ _
    case d3 => omega
    case d4 => omega
    case d5 => first | omega | (simp; omega)
    intro v7 V7 hown7 hgrow7
    have neb : ∀ z, z < w.heap.size + 1 ∨ tb ≤ z → some z ≠ u5.ownBlock := fun z hz e => by have := yy HU z e.symm; omega
    have HB8 : Hid (Below W.heap.size W V7) := yz ((ak (yy HB2) (yy HB5)).trans ⟨hgrow7.os, hgrow7.tape, hgrow7.output, hgrow7.size, fun z hz => hgrow7.block z (by simp; omega) (neb z (.inl (by omega)))⟩)
    have HO8 : Hid (V7.ownsRow (w.heap.size + 1) 228 7 v7 (au L S ids (i + 1)).length (cq (au L S ids (i + 1)))) := yz (by rw [yy HSN, pn, List.length_append]; exact hown7)
    obtain ⟨k1, ⟨k2, k3, k4⟩, k5, k6, k7, k8⟩ := yy HK _ (yy HB5)
    have hbb2 : bb < w.heap.size + 1 := by omega
    have k1' := bY k1 hgrow7 (neb _ (.inl (show w.heap.size < w.heap.size + 1 by omega)))
    have k2' := bY k2 hgrow7 (neb _ (.inl hbb2))
    have k3' := bY k3 hgrow7 (neb _ (.inl hbb2))
    have k4' := bY k4 hgrow7 (neb _ (.inl hbb2))
    have k5' := bY k5 hgrow7 (neb _ (.inr (Nat.le_refl _)))
    have k6' := bY k6 hgrow7 (neb _ (.inr (Nat.le_refl _)))
    have k7' := bY k7 hgrow7 (neb _ (.inr (Nat.le_refl _)))
    have k8' := bY k8 hgrow7 (neb _ (.inr (Nat.le_refl _)))
    clear hown7 hgrow7 hown k1 k2 k3 k4 k5 k6 k7 k8 neb HB5 HB2 HO2
    refine hK.out _ _ ⟨k1', ⟨k2', k3', k4'⟩, k5', k6', k7', k8'⟩ (fun hHeld4 => ?_)
    clear hK K hHeld3
    refine af 10 rfl fun K hK => ?_
    go_simp
    refine hK.out _ _ ⟨k1', ⟨k2', k3', k4'⟩, k5', k6', k7', k8'⟩ (fun hHeld5 => ?_)
    clear hK K hHeld4
    refine wpAnyH_done (by kernel_rfl) ?_ _
    clear k1' k2' k3' k4' k5' k6' k7' k8' hHeld5 HK
    go_wp2_with fail
    go_roundw
    case rel => first | exact ⟨i + 1, by omega, by go_num, HO8, HB8⟩ | trace_state
    case measure => simp [intOf] <;> omega
  ·have hin' : i = n := by omega
   subst hin'
   go_wp2_with fail
   go_ret
   exact ⟨⟨_, rfl, yy HO⟩, ak (yy HB0) (yy HB)⟩
end
section
open Go.RowKit Go.Sort
theorem sH (ids : List Int) {i : Nat} (hi : i < ids.length) : aQ (ids.take (i + 1)) = aQ (ids.take i) + if ids.getD i 0 ≠ 0 then 1 else 0 := by
 rw [List.take_succ_eq_append_getElem hi, je]
 have e : ids.getD i 0 = ids[i] := by rw [List.getD_eq_getElem?_getD, List.getElem?_eq_getElem hi]; rfl
 rw [e]
theorem fP (ids : List Int) (a : Option Addr) (c : Nat) (w : World) (hk : ids.length ≤ 1048576) (hI : gx w a ids ids.length) :
  Calls Tryz.prog 130 #[.slice a ids.length c] w fun e w' => e = .returned (.int .i64 (aQ ids : Int)) ∧ w' = w := by
 have HT : Hid (aQ (ids.take ids.length) = aQ ids) := yz (by rw [List.take_length])
 rcases hI with h0 | ⟨b, o, rfl, hb, hc⟩
 ·have e : ids = [] := List.eq_nil_of_length_eq_zero h0
  subst e
  go_enter Tryz.func130, Tryz.ntmps130
  go_wp2_with fail
  refine wp_loop_rounds 1 ?_
  rw [rounds_succ]
  go_wp2_with fail
  go_ret
  exact ⟨rfl, rfl⟩
 have HC := yz hc
 clear hc
 go_enter Tryz.func130, Tryz.ntmps130
 go_wp2_with fail
 go_loop [3, 8] (fun q i => ∃ k : Nat, k ≤ ids.length ∧ i = .int .i64 k ∧ q = .int .i64 (aQ (ids.take k) : Int)) (fun _ i => ids.length - (intOf i).toNat)
 case atStart => exact ⟨0, Nat.zero_le _, rfl, rfl⟩
 case round =>
  obtain ⟨k, hkl, rfl, rfl⟩ := hrel
  by_cases hkn : k < ids.length
  ·have c0 := yy HC k hkn
   have HS := yz (sH ids hkn)
   have hle := kO (ids.take k)
   rw [List.length_take] at hle
   have hle2 : (aQ (ids.take k) : Int) ≤ 1048576 := by omega
   have hkn2 : (k : Int) < (ids.length : Int) := by omega
   generalize ids.getD k 0 = z at *
   by_cases hz : z = 0
   ·have HS2 : Hid (aQ (ids.take (k + 1)) = aQ (ids.take k)) := yz (by rw [yy HS, if_neg (by simpa using hz)]; rfl)
    subst hz
    go_wp2_with fail
    go_round
    case rel => exact ⟨k + 1, by omega, by go_num, by rw [yy HS2]⟩
    case measure => simp [intOf]; omega
   ·have HS2 : Hid (aQ (ids.take (k + 1)) = aQ (ids.take k) + 1) := yz (by rw [yy HS, if_pos hz])
    go_wp2_with fail
    go_round
    case rel => exact ⟨k + 1, by omega, by go_num, by rw [yy HS2]; go_num⟩
    case measure => simp [intOf]; omega
  ·obtain rfl : k = ids.length := by omega
   go_wp2_with fail
   go_ret
   exact ⟨rfl, rfl⟩
def dk (L : List St) (S : List D3) : List Int × Nat := (eh (da L S) (L.map (·.1)) S.length []).foldl de ([], 0)
theorem lN (L : List St) (S : List D3) : bV L S = (if (dk L S).2 = 1 then (dk L S).1 else []) ∧ eK L S = (if (dk L S).2 = 1 then (aQ (dk L S).1 : Int) else 0) ∧ bC L S = (if (dk L S).2 = 0 then 6 else if 1 < (dk L S).2 then 11 else 0) := by
 have h := zM (da L S) (L.map (·.1)) S.length
 unfold bV eK bC
 change rA (idR L S) (dk L S) at h
 rcases h with ⟨h1, h2, h3⟩ | ⟨h1, h2, h3, h4, h5⟩
 ·rw [h1, h3]
  exact ⟨rfl, rfl, rfl⟩
 ·rw [h4]
  refine ⟨?_, ?_, rfl⟩
  ·split
   ·rename_i e; exact h5 e
   ·rfl
  ·split
   ·rw [h3]
   ·rfl
end
section
open Go.RowKit Go.Sort Go.Shelf
attribute [local go_sem] Oper.semAt_some
abbrev Nam := List Int × Nat
def Ea (x : Nam) : Value := .slice (some ⟨x.2, 0, none⟩) x.1.length x.1.length
def El (x : Nam) (w : World) : Prop := cH w 2 x.2 (x.1.length * 1) (qJ x.1)
structure KpX (p q : Nat) (W W' : World) : Prop where
 size : W.heap.size ≤ W'.heap.size
 os : W'.os = W.os
 tape : W'.tape = W.tape
 output : W'.output = W.output
 same : ∀ k o, W.heap[k]? = some o → (o.isCells = true ∨ o.isWalk = true) → k ≠ p → k ≠ q → W'.heap[k]? = some o
theorem KpX.trans {p q : Nat} {A B C : World} (h : KpX p q A B) (k : KpX p q B C) : KpX p q A C := ⟨Nat.le_trans h.size k.size, k.os.trans h.os, k.tape.trans h.tape, k.output.trans h.output, fun i o hi ho h1 h2 => k.same i o (h.same i o hi ho h1 h2) ho h1 h2⟩
theorem KpX.of_below {p q : Nat} {A B : World} (h : Below A.heap.size A B) : KpX p q A B := ⟨h.size, h.os, h.tape, h.output, fun i o hi _ _ _ => by rw [h.block i (Array.getElem?_eq_some_iff.1 hi).1]; exact hi⟩
def oN (l p q : Nat) (J : List (List Int) → World → Prop) : Prop := ∀ m pre (x : Nam) W, J pre W → (∃ W0, J pre W0 ∧ W0.heap.size ≤ x.2) → El x W → x.1.length ≤ 6 → YieldAt Fence.wide m Tryz.prog l #[Ea x] W fun e W' => e = .returned (.bool true) ∧ J (pre ++ [x.1]) W' ∧ KpX p q W W'
theorem zE (L : List St) (S : List D3) (ids : List Int) (ar br : Option Addr) (cr dr b N l p q n : Nat) (J : List (List Int) → World → Prop) (pre : List (List Int)) (w : World) (hm : S.length ≤ 6) (hl : ids.length = S.length) (hN : bF w b N L ids)
  (hJ : J pre w) (hJa : ∀ W W', J pre W → Below W.heap.size W W' → J pre W') (hY : oN l p q J) :
  CallsIn Fence.wide n Tryz.prog 151 #[.agg #[.slice ar L.length cr, .slice br S.length dr, .map (some b)], .int .i64 (ids.length : Int), .func (.yield l) #[] #[]] w fun e W' => e = .returned (.bool true) ∧ J (pre ++ [ids]) W' ∧ KpX p q w W' := by
 have B0 := an w (.cells #[.slice ar L.length cr, .slice br S.length dr, .map (some b)] 201)
 have HB := yz B0
 have HJ := yz (hJa _ _ hJ B0)
 have cI := yz (fun (k : Nat) => callsIn_wide (n := k) |>.2 (CX L ids S.length ar br L.length cr dr b N _ hm (hN.below B0)))
 have HY := yz hY
 have HJa := yz hJa
 clear B0 hN hJ hY hJa
 rw [hl]
 refine callsIn_of_wp Tryz.func151 rfl trivial ?_ rfl
 simp only [Tryz.ntmps151, List.size_toArray, List.length_cons, List.length_nil, Nat.reduceAdd, Nat.reduceSub, Array.replicate_succ, Array.replicate_zero, List.push_toArray, List.append_toArray, List.nil_append, List.cons_append]
 gi_wp2
 refine ⟨trivial, fun h => (by cases h), ?_⟩
 refine (yy cI _).mono ?_
 rintro e w1 ⟨rfl, hrow, hx⟩
 have hsz : (w.alloc (.cells #[.slice ar L.length cr, .slice br S.length dr, .map (some b)] 201)).heap.size = w.heap.size + 1 := by simp
 rw [hsz] at hrow ⊢
 have HY1 := yy HY (n - 1) pre (ids, w.heap.size + 1 + 1) w1 (yy HJa _ _ (yy HJ) hx) ⟨_, yy HJ, by simp⟩ (by unfold El; dsimp only; rw [hl]; exact hrow) (by dsimp only; omega)
 unfold Ea at HY1
 dsimp only at HY1
 rw [hl] at HY1
 have HK := yz (KpX.of_below (p := p) (q := q) (ak (yy HB) hx))
 clear hrow hx hsz cI HY HJa HJ HB
 obtain ⟨fn, tmps, assign, body, hy, hR⟩ := HY1
 gi_wp2
 refine ⟨fun h => (by cases h), ?_⟩
 refine hR.mono ?_
 rintro e w2 ⟨rfl, hJ2, hk2⟩
 have HJ2 := yz hJ2
 have HK2 := yz ((yy HK).trans hk2)
 clear hJ2 hk2 hR hy HK
 gi_wp2
 go_ret
 exact ⟨rfl, yy HJ2, yy HK2⟩
end
section
open Go.RowKit Go.Sort
theorem sJ {i j : Nat} (h : i ≠ j) : (Lit.int .i64 (i : Int)) ≠ Lit.int .i64 (j : Int) := fun e => h (by injection e with _ e; omega)
theorem jp (ids : List Int) (a : Int) {i : Nat} (h : i < ids.length) : (ids ++ [a]).getD i 0 = ids.getD i 0 := by rw [List.getD_eq_getElem?_getD, List.getD_eq_getElem?_getD, List.getElem?_append_left h]
theorem mF (ids : List Int) (a : Int) : (ids ++ [a]).getD ids.length 0 = a := by rw [List.getD_eq_getElem?_getD, List.getElem?_append_right (Nat.le_refl _), Nat.sub_self]; rfl
theorem jA (ids : List Int) (a : Int) {i : Nat} (h : ids.length < i) : (ids ++ [a]).getD i 0 = 0 := by
 rw [List.getD_eq_getElem?_getD, List.getElem?_append_right (by omega), List.getElem?_eq_none (by simp; omega)]
 rfl
theorem kw (ids : List Int) {i : Nat} (h : ids.length ≤ i) : ids.getD i 0 = 0 := by rw [List.getD_eq_getElem?_getD, List.getElem?_eq_none h]; rfl
theorem qn (ids : List Int) (i : Nat) : (ids ++ [(0 : Int)]).getD i 0 = ids.getD i 0 := by
 rcases Nat.lt_trichotomy i ids.length with h | h | h
 ·exact jp ids 0 h
 ·rw [h, mF, kw ids (Nat.le_refl _)]
 ·rw [jA ids 0 h, kw ids (by omega)]
theorem la.snoc0 {D : DataW Unit} {L : List St} {ids : List Int} (h : la D L ids) : la D L (ids ++ [0]) := fun i hi => by
 have h1 := h i hi
 unfold ef at h1 ⊢
 rw [qn]
 exact h1
theorem la.put {D : DataW Unit} {L : List St} {ids : List Int} {a : Int} (h : la D L ids) (hm : Maps.IsMap D) (ha : a ≠ 0) : la (D.put (.int .i64 (ids.length : Int)) (nV (a, atV L L.length a))) L (ids ++ [a]) := fun i hi => by
 by_cases e : i = ids.length
 ·subst e
  rw [Maps.has_put_same hm (by trivial), Maps.atKey_put_same hm (by trivial)]
  unfold ef
  rw [mF, if_pos ha]
  exact ⟨by simp [ha], rfl⟩
 ·rw [Maps.has_put_other (sJ e), Maps.atKey_put_other (sJ e)]
  have h1 := h i hi
  unfold ef at h1 ⊢
  have e2 : (ids ++ [a]).getD i 0 = ids.getD i 0 := by
   rcases Nat.lt_or_gt_of_ne e with h2 | h2
   ·exact jp ids a h2
   ·rw [jA ids a h2, kw ids (by omega)]
  rw [e2]
  exact h1
theorem la.del {D : DataW Unit} {L : List St} {ids : List Int} {a : Int} (h : la D L (ids ++ [a])) : la (D.del (.int .i64 (ids.length : Int))) L ids := fun i hi => by
 by_cases e : i = ids.length
 ·subst e
  rw [Maps.has_del_same, Maps.atKey_del_same]
  unfold ef
  rw [kw ids (Nat.le_refl _), if_neg (by simp)]
  exact ⟨by simp, rfl⟩
 ·rw [Maps.has_del_other (sJ e), Maps.atKey_del_other (sJ e)]
  have h1 := h i hi
  unfold ef at h1 ⊢
  have e2 : (ids ++ [a]).getD i 0 = ids.getD i 0 := by
   rcases Nat.lt_or_gt_of_ne e with h2 | h2
   ·exact jp ids a h2
   ·rw [jA ids a h2, kw ids (by omega)]
  rw [e2] at h1
  exact h1
def gZ (F : List Int → Int → Bool) (A : List Int) (r : Nat) (ids : List Int) (i : Nat) : List (List Int) := ((A.take i).filter (F ids)).flatMap (fun a => eh F A r (ids ++ [a]))
theorem yi (F : List Int → Int → Bool) (A : List Int) (r : Nat) (ids : List Int) : gZ F A r ids 0 = [] := rfl
theorem oT (F : List Int → Int → Bool) (A : List Int) (r : Nat) (ids : List Int) {i : Nat} (hi : i < A.length) : gZ F A r ids (i + 1) = gZ F A r ids i ++ if F ids (A.getD i 0) = true then eh F A r (ids ++ [A.getD i 0]) else [] := by
 unfold gZ
 rw [List.take_succ_eq_append_getElem hi, List.filter_append, List.flatMap_append]
 have e : A.getD i 0 = A[i] := by rw [List.getD_eq_getElem?_getD, List.getElem?_eq_getElem hi]; rfl
 rw [e]
 congr 1
 cases h : F ids A[i] <;> simp [h]
theorem An (F : List Int → Int → Bool) (A : List Int) (r : Nat) (ids : List Int) : eh F A (r + 1) ids = gZ F A r ids A.length ++ eh F A r (ids ++ [0]) := by
 unfold gZ
 rw [List.take_length]
 rfl
theorem Cw (L : List St) (S : List D3) (ids : List Int) (a : Int) : da L S ids a = ea (au L S ids ids.length) (vA S ids.length, (a, atV L L.length a)) (au L S ids ids.length).length := tj L S ids _ ids.length
end
section
open Go.RowKit Go.Sort Go.Shelf
attribute [local go_sem] Oper.semAt_some
structure KpM (b p q : Nat) (W W' : World) : Prop where
 size : W.heap.size ≤ W'.heap.size
 os : W'.os = W.os
 tape : W'.tape = W.tape
 output : W'.output = W.output
 same : ∀ k o, W.heap[k]? = some o → (o.isCells = true ∨ o.isWalk = true) → k ≠ b → k ≠ p → k ≠ q → W'.heap[k]? = some o
theorem KpM.trans {b p q : Nat} {A B C : World} (h : KpM b p q A B) (k : KpM b p q B C) : KpM b p q A C := ⟨Nat.le_trans h.size k.size, k.os.trans h.os, k.tape.trans h.tape, k.output.trans h.output, fun i o hi ho h0 h1 h2 => k.same i o (h.same i o hi ho h0 h1 h2) ho h0 h1 h2⟩
theorem KpX.toM {b p q : Nat} {A B : World} (h : KpX p q A B) : KpM b p q A B := ⟨h.size, h.os, h.tape, h.output, fun i o hi ho _ h1 h2 => h.same i o hi ho h1 h2⟩
theorem KpM.of_grown {b p q : Nat} {A B : World} (h : A.grownBy B (some b)) : KpM b p q A B := ⟨h.size, h.os, h.tape, h.output, fun i o hi _ h0 _ _ => by rw [h.block i (Array.getElem?_eq_some_iff.1 hi).1 (fun e => h0 (Option.some.inj e))]; exact hi⟩
theorem KpM.of_below {b p q : Nat} {A B : World} (h : Below A.heap.size A B) : KpM b p q A B := KpM.of_grown (ch h)
theorem KpM.cell {b p q : Nat} {A B : World} (h : KpM b p q A B) {a : Addr} {v : Value} (hc : A.cell? a = some v) (h0 : a.block ≠ b) (h1 : a.block ≠ p) (h2 : a.block ≠ q) : B.cell? a = some v := by
 obtain ⟨o, ho, hi⟩ := cells_of_cell hc
 have e := h.same a.block o ho (.inl hi) h0 h1 h2
 rw [← hc]
 exact World.cell?_of_block (e.trans ho.symm)
def jS (a : Option Addr) (b p q : Nat) : Prop := ∀ y, a = some y → y.block ≠ b ∧ y.block ≠ p ∧ y.block ≠ q
theorem Bg {b p q : Nat} {w w' : World} {a : Option Addr} {L : List St} {n : Nat} (h : aR w a L n) (hg : KpM b p q w w') (hne : jS a b p q) : aR w' a L n := by
 rcases h with h | ⟨c, o, rfl, hb, hc⟩
 ·exact .inl h
 ·obtain ⟨n0, n1, n2⟩ := hne _ rfl
  refine .inr ⟨c, o, rfl, Nat.lt_of_lt_of_le hb hg.size, fun i hi => ?_⟩
  obtain ⟨c0, c1, c2, c3⟩ := hc i hi
  exact ⟨hg.cell c0 n0 n1 n2, hg.cell c1 n0 n1 n2, hg.cell c2 n0 n1 n2, hg.cell c3 n0 n1 n2⟩
theorem DJ {b p q : Nat} {w w' : World} {a : Option Addr} {L : List D3} {n : Nat} (h : cf w a L n) (hg : KpM b p q w w') (hne : jS a b p q) : cf w' a L n := by
 rcases h with h | ⟨c, o, rfl, hb, hc⟩
 ·exact .inl h
 ·obtain ⟨n0, n1, n2⟩ := hne _ rfl
  refine .inr ⟨c, o, rfl, Nat.lt_of_lt_of_le hb hg.size, fun i hi => ?_⟩
  obtain ⟨c0, c1, c2⟩ := hc i hi
  exact ⟨hg.cell c0 n0 n1 n2, hg.cell c1 n0 n1 n2, hg.cell c2 n0 n1 n2⟩
theorem Db {b p q : Nat} {w w' : World} {a : Option Addr} {A : List Sg} {n : Nat} (h : eT w a A n) (hg : KpM b p q w w') (hne : jS a b p q) : eT w' a A n := by
 rcases h with h | ⟨c, o, rfl, hb, hc⟩
 ·exact .inl h
 ·obtain ⟨n0, n1, n2⟩ := hne _ rfl
  refine .inr ⟨c, o, rfl, Nat.lt_of_lt_of_le hb hg.size, fun i hi => ?_⟩
  obtain ⟨c0, c1, c2, c3, c4, c5, c6⟩ := hc i hi
  exact ⟨hg.cell c0 n0 n1 n2, hg.cell c1 n0 n1 n2, hg.cell c2 n0 n1 n2, hg.cell c3 n0 n1 n2, hg.cell c4 n0 n1 n2, hg.cell c5 n0 n1 n2, hg.cell c6 n0 n1 n2⟩
theorem bF.isMap {w : World} {b n : Nat} {L : List St} {ids : List Int} (h : bF w b n L ids) : ∃ es c, w.heap[b]? = some (.map es c) := by
 obtain ⟨D, ⟨es, c, hh, _⟩, _⟩ := h
 exact ⟨es, c, hh⟩
def JAb (b : Nat) (J : List (List Int) → World → Prop) : Prop := ∀ pre W W', J pre W → (∃ es c, W.heap[b]? = some (.map es c)) → W.grownBy W' (some b) → J pre W'
def Dd (L : List St) (S : List D3) (ar br : Option Addr) (cr dr b l p q : Nat) (J : List (List Int) → World → Prop) (r : Nat) : Prop := ∀ (ids : List Int) (pre : List (List Int)) (N n : Nat) (w : World), ids.length + r = S.length → N + 13 ^ r ≤ 100000000 → bF w b N L ids → aR w ar L L.length → cf w br S S.length → p < w.heap.size → q < w.heap.size → J pre w →
  CallsIn Fence.wide n Tryz.prog 151 #[.agg #[.slice ar L.length cr, .slice br S.length dr, .map (some b)], .int .i64 (ids.length : Int), .func (.yield l) #[] #[]] w fun e W' => e = .returned (.bool true) ∧ J (pre ++ eh (da L S) (L.map (·.1)) r ids) W' ∧ bF W' b (N + (13 ^ r - 1)) L ids ∧ KpM b p q w W'
theorem zW (L : List St) (S : List D3) (ar br : Option Addr) (cr dr b l p q : Nat) (J : List (List Int) → World → Prop) (hm : S.length ≤ 6) (hJ : JAb b J) (hY : oN l p q J) (hbp : b ≠ p) (hbq : b ≠ q) : Dd L S ar br cr dr b l p q J 0 := fun ids pre N n w hl hN13 hN hS hD hp hq hj => by
 refine (zE L S ids ar br cr dr b N l p q n (fun pre' W => J pre' W ∧ ∃ es c, W.heap[b]? = some (.map es c)) pre w hm (by omega) hN ⟨hj, hN.isMap⟩ (fun W W' h hB => ?_) (fun m pre' x W h1 hq0 h2 h3 => ?_)).mono fun e W' h => ⟨h.1, h.2.1.1, ?_, h.2.2.toM⟩
 ·obtain ⟨es, c, hh⟩ := h.2
  exact ⟨hJ _ _ _ h.1 h.2 (ch hB), es, c, by rw [hB.block b (Array.getElem?_eq_some_iff.1 hh).1]; exact hh⟩
 ·obtain ⟨fn, tmps, assign, body, hy, hR⟩ := hY m pre' x W h1.1 (hq0.elim fun W0 h => ⟨W0, h.1.1, h.2⟩) h2 h3
  refine ⟨fn, tmps, assign, body, hy, hR.mono fun e W' h => ⟨h.1, ⟨h.2.1, ?_⟩, h.2.2⟩⟩
  obtain ⟨es, c, hh⟩ := h1.2
  exact ⟨es, c, h.2.2.same b _ hh (.inr rfl) hbp hbq⟩
 ·obtain ⟨D, ⟨es, c, hh, rest⟩, hM⟩ := hN
  exact ⟨D, (show W'.ownsMap Tryz.prog 3 qx b N D from ⟨es, c, h.2.2.same b _ hh (.inr rfl) hbp hbq, rest⟩).mono (by omega), hM⟩
attribute [local go_sem] Oper.semAt_some
theorem pK.keptM {b p q : Nat} {w w' : World} {c : Nat} {v0 v1 v2 : Value} (h : pK w c v0 v1 v2) (hg : KpM b p q w w') (n0 : c ≠ b) (n1 : c ≠ p) (n2 : c ≠ q) : pK w' c v0 v1 v2 := ⟨hg.cell h.1 n0 n1 n2, hg.cell h.2.1 n0 n1 n2, hg.cell h.2.2 n0 n1 n2⟩
theorem zk (L : List St) (S : List D3) (ar br : Option Addr) (cr dr b l p q r : Nat) (J : List (List Int) → World → Prop) (hk : aV L = true) (hm : S.length ≤ 6) (hJ : JAb b J) (hbp : b ≠ p) (hbq : b ≠ q) (hA : jS ar b p q) (hB : jS br b p q) (ih : Dd L S ar br cr dr b l p q J r) : Dd L S ar br cr dr b l p q J (r + 1) := fun ids pre N n w hl hN13 hN hS hD hp hq hj => by
 have hn12 : L.length ≤ 12 := (bQ hk).1
 have B0 := an w (.cells #[.slice ar L.length cr, .slice br S.length dr, .map (some b)] 201)
 have C0 : pK (w.alloc (.cells #[.slice ar L.length cr, .slice br S.length dr, .map (some b)] 201)) w.heap.size (.slice ar L.length cr) (.slice br S.length dr) (.map (some b)) := by refine ⟨?_, ?_, ?_⟩ <;> simp
 have hbl : b < w.heap.size := by obtain ⟨D, hD, _⟩ := hN; exact hD.lt
 have cA := yz (fun (k : Nat) => (callsIn_wide (n := k)).2 (zz L S ids ids.length ar br L.length cr dr b N _ hm (by omega) (hD.kept B0) (hN.below B0)))
 have HN := yz (hN.below B0)
 have HS := yz (hS.kept B0)
 have HD := yz (hD.kept B0)
 have HJ0 := yz (hJ _ _ _ hj hN.isMap (ch B0))
 have HC := yz C0
 have HB0 := yz B0
 have HIH := yz ih
 have HJA := yz hJ
 have hne : ¬ (ids.length : Int) = (S.length : Int) := by omega
 have e16 : ((ids.length : Int) == (S.length : Int)) = false := by rw [beq_eq_false_iff_ne]; exact hne
 have hsz : (w.alloc (.cells #[.slice ar L.length cr, .slice br S.length dr, .map (some b)] 201)).heap.size = w.heap.size + 1 := by simp
 clear B0 C0 hN hS hD hj ih hJ
 refine callsIn_of_wp Tryz.func151 rfl trivial ?_ rfl
 simp only [Tryz.ntmps151, List.size_toArray, List.length_cons, List.length_nil, Nat.reduceAdd, Nat.reduceSub, Array.replicate_succ, Array.replicate_zero, List.push_toArray, List.append_toArray, List.nil_append, List.cons_append]
 gi_wp2
 refine ⟨trivial, fun h => (by cases h), ?_⟩
 generalize hW : w.alloc (.cells #[.slice ar L.length cr, .slice br S.length dr, .map (some b)] 201) = W at *
 clear hW
 refine (yy cA _).mono ?_
 rintro e w1 ⟨⟨v, rfl, ho⟩, hx⟩
 obtain ⟨av, cv, rfl⟩ := fG ho
 have HSi := yz (lq ho)
 have hcv := yq ho (by decide)
 have hcm := pU ho
 have hm9 : maxLen ≤ 9223372036854775807 := by decide +kernel
 have hna := hZ L S ids ids.length
 have HAp : Hid (jS av b p q) := yz (fun y e => by
  rcases ho.2 with ⟨h1, _⟩ | ⟨g, c', cur, e', hb', _⟩
  ·injection h1 with h1; rw [h1] at e; cases e
  ·injection e' with e1; rw [e1] at e; cases e; exact ⟨by show g ≠ b; omega, by show g ≠ p; omega, by show g ≠ q; omega⟩)
 have N1 := yz ((yy HN).below hx)
 have S1 := yz ((yy HS).kept hx)
 have D1 := yz ((yy HD).kept hx)
 have J1 := yz (yy HJA _ _ _ (yy HJ0) (yy HN).isMap (ch hx))
 have C1 := yz ((yy HC).kept hx)
 have HK0 := yz (KpM.of_below (b := b) (p := p) (q := q) (ak (yy HB0) hx))
 have hw1 : w.heap.size + 1 ≤ w1.heap.size := by have := hx.size; omega
 have HFE := yz (Cw L S ids)
 generalize hsa : au L S ids ids.length = SA at *
 clear ho hx HN HS HD HJ0 HC HB0 cA hsz hsa
 obtain ⟨c0, c1, c2⟩ := yy C1
 gi_wp2
 clear c0 c1 c2
 gi_loopw [27] (fun i wr => ∃ k : Nat, k ≤ L.length ∧ i = .int .i64 k ∧ Hid (J (pre ++ gZ (da L S) (L.map (·.1)) r ids k) wr) ∧ Hid (bF wr b (N + k * 13 ^ r) L ids) ∧ Hid (KpM b p q w1 wr)) (fun i _ => L.length - (intOf i).toNat)
 case atStart => exact ⟨0, Nat.zero_le _, rfl, yz (by rw [yi, List.append_nil]; exact yy J1), yz (by rw [Nat.zero_mul]; exact yy N1), yz ⟨Nat.le_refl _, rfl, rfl, rfl, fun _ _ h _ _ _ _ => h⟩⟩
 case round =>
  clear J1 N1
  obtain ⟨k, hkl, rfl, HJr, HNr, HKr⟩ := hrel
  have Sr := yz (Bg (yy S1) (yy HKr) hA)
  have Dr := yz (DJ (yy D1) (yy HKr) hB)
  have Cr := yz ((yy C1).keptM (yy HKr) (by omega) (by omega) (by omega))
  have Ar := yz (Db (yy HSi) (yy HKr) (yy HAp))
  have hwr : w.heap.size + 1 ≤ wr.heap.size := Nat.le_trans hw1 (yy HKr).size
  obtain ⟨c0, c1, c2⟩ := yy Cr
  by_cases hkn : k < L.length
  ·obtain ⟨⟨s1, s2, s3, s4⟩, hst⟩ : ∃ z, stA L k = z := ⟨_, rfl⟩
   have hsm1 := pI hk hkn
   have hat := tU hk hkn
   have HMA : Hid ((L.map (·.1)).getD k 0 = s1) := yz (by rw [AZ hkn, hst])
   rw [hst] at hsm1 hat
   have HAT := yz hat
   have HS1 := yz hsm1.2
   have hkn2 : (k : Int) < (L.length : Int) := by omega
   rcases yy Sr with h0 | ⟨sb, so, rfl, hsb, hcs⟩
   ·omega
   have hstar := hcs k hkn
   rw [hst] at hstar
   obtain ⟨d0, d1, d2, d3⟩ := hstar
   clear hsm1 hat hst hcs
   rcases yy Dr with h0 | ⟨db, do', rfl, hdb, hcd⟩
   ·omega
   obtain ⟨⟨v1, v2, v3⟩, hv⟩ : ∃ z, vA S ids.length = z := ⟨_, rfl⟩
   have hdir := hcd ids.length (by omega)
   rw [hv] at hdir
   have HV := yz hv
   obtain ⟨g0, g1, g2⟩ := hdir
   dsimp only at d0 d1 d2 d3 g0 g1 g2
   clear hcd hv
   have hpl : (ids.length : Int) < (S.length : Int) := by omega
   have Z2 := an wr (.cells #[.int .i64 s1, .int .i64 s2, .int .i64 s3, .int .i64 s4] 60)
   have E2 := yz (fk wr (s1, s2, s3, s4) 60)
   have HB2 := yz Z2
   have y1 := bq c1 Z2
   have y2 := bq c2 Z2
   have z0 := bq g0 Z2
   have z1 := bq g1 Z2
   have z2 := bq g2 Z2
   clear Z2
   gi_wp2
   clear c0 c1 c2 d0 d1 d2 d3 g0 g1 g2
   generalize hW2 : wr.alloc (.cells #[.int .i64 s1, .int .i64 s2, .int .i64 s3, .int .i64 s4] 60) = W2 at *
   clear hW2
   obtain ⟨e0, e1, e2, e3⟩ := yy E2
   simp only [Nat.zero_add] at e0 e1 e2 e3
   have y1' := fun o => bq y1 (an W2 o)
   have z0' := fun o => bq z0 (an W2 o)
   have z1' := fun o => bq z1 (an W2 o)
   have z2' := fun o => bq z2 (an W2 o)
   have e0' := fun o => bq e0 (an W2 o)
   have e1' := fun o => bq e1 (an W2 o)
   have e2' := fun o => bq e2 (an W2 o)
   have e3' := fun o => bq e3 (an W2 o)
   gi_region
   have Z3 := (an W2 (.cells #[.int .i64 v1, .int .i64 v2, .int .i64 v3, .int .i64 s1, .int .i64 s2, .int .i64 s3, .int .i64 s4] 228))
   have Y3 : Below W2.heap.size W2 (W2.alloc (.cells #[.int .i64 v1, .int .i64 v2, .int .i64 v3, .int .i64 s1, .int .i64 s2, .int .i64 s3, .int .i64 s4] 228)).drew := Z3.drew
   have P3 : Hid (pT (W2.alloc (.cells #[.int .i64 v1, .int .i64 v2, .int .i64 v3, .int .i64 s1, .int .i64 s2, .int .i64 s3, .int .i64 s4] 228)).drew W2.heap.size 0 ((v1, v2, v3), (s1, s2, s3, s4))) := yz (fL W2 ((v1, v2, v3), (s1, s2, s3, s4)) 228)
   have E3 := yz ((yy E2).kept (World.block_lt_of_cell? W2 _ e0) Y3)
   have HB3 := yz (ak (yy HB2) Y3)
   generalize hW3 : (W2.alloc (.cells #[.int .i64 v1, .int .i64 v2, .int .i64 v3, .int .i64 s1, .int .i64 s2, .int .i64 s3, .int .i64 s4] 228)).drew = W3 at *
   clear hW3 Z3 Y3 y1 y2 z0 z1 z2 e0 e1 e2 e3 y1' z0' z1' z2' e0' e1' e2' e3' E2 HB2
   have J3 := yz (yy HJA _ _ _ (yy HJr) (yy HNr).isMap (ch (yy HB3)))
   have N3 := yz ((yy HNr).below (yy HB3))
   have K3 := yz ((yy HKr).trans (KpM.of_below (b := b) (p := p) (q := q) (yy HB3)))
   have A3 := yz ((yy Ar).kept (yy HB3))
   have C3 := yz ((yy Cr).kept (yy HB3))
   have hw3 : w.heap.size + 1 ≤ W3.heap.size := Nat.le_trans hwr (yy HB3).size
   generalize W2.heap.size = nb at *
   obtain ⟨n0, n1, n2, n3, n4, n5, n6⟩ := yy P3
   simp only [Nat.zero_add] at n0 n1 n2 n3 n4 n5 n6
   have cF := yz (fun (j : Nat) => (callsIn_wide (n := j)).2 (ki SA SA.length ((v1, v2, v3), (s1, s2, s3, s4)) av cv W3 (by omega) hcv (by omega) (yy A3)))
   have HFV : Hid (ea SA ((v1, v2, v3), (s1, s2, s3, s4)) SA.length = da L S ids s1) := yz (by rw [yy HFE s1, yy HV, yy HAT])
   rw [yy HFV] at cF
   unfold sgV at cF
   dsimp only at cF
   gi_wp2
   refine ⟨trivial, fun h => (by cases h), ?_⟩
   refine (yy cF _).mono ?_
   rintro e W4 ⟨rfl, hx⟩
   have J4 := yz (yy HJA _ _ _ (yy J3) (yy N3).isMap (ch hx))
   have N4 := yz ((yy N3).below hx)
   have K4 := yz ((yy K3).trans (KpM.of_below (b := b) (p := p) (q := q) hx))
   have C4 := yz ((yy C3).kept hx)
   have E4 := yz ((yy E3).kept (World.block_lt_of_cell? W3 _ (yy E3).1) hx)
   have hw4 : w.heap.size + 1 ≤ W4.heap.size := Nat.le_trans hw3 hx.size
   clear hx n0 n1 n2 n3 n4 n5 n6 J3 N3 K3 C3 E3 A3 cF P3 HJr HNr HKr Cr Ar Sr Dr HB3
   cases hfit : da L S ids s1
   ·have HR : Hid (gZ (da L S) (L.map (·.1)) r ids (k + 1) = gZ (da L S) (L.map (·.1)) r ids k) := yz (by rw [oT _ _ _ _ (by rw [List.length_map]; exact hkn), yy HMA, hfit]; simp)
    have J5 : Hid (J (pre ++ gZ (da L S) (L.map (·.1)) r ids (k + 1)) W4) := yz (by rw [yy HR]; exact yy J4)
    have N5 : Hid (bF W4 b (N + (k + 1) * 13 ^ r) L ids) := yz (by obtain ⟨D, h1, h2⟩ := yy N4; exact ⟨D, h1.mono (Nat.add_le_add_left (Nat.mul_le_mul_right _ (Nat.le_succ k)) _), h2⟩)
    gi_wp2
    go_roundw
    case rel => first | exact ⟨k + 1, by omega, by go_num, J5, N5, K4⟩ | trace_state
    case measure => simp [intOf]; omega
   ·have HR : Hid (gZ (da L S) (L.map (·.1)) r ids (k + 1) = gZ (da L S) (L.map (·.1)) r ids k ++ eh (da L S) (L.map (·.1)) r (ids ++ [s1])) := yz (by rw [oT _ _ _ _ (by rw [List.length_map]; exact hkn), yy HMA, hfit]; rfl)
    obtain ⟨c0, c1, c2⟩ := yy C4
    obtain ⟨e0, e1, e2, e3⟩ := yy E4
    simp only [Nat.zero_add] at e0 e1 e2 e3
    obtain ⟨D, hown, hM⟩ := yy N4
    have hNb : N + k * 13 ^ r < maxLen := by
     have h1 : k * 13 ^ r ≤ 12 * 13 ^ r := Nat.mul_le_mul_right _ (by omega)
     have h2 : 100000000 ≤ maxLen := by decide +kernel
     rw [Nat.pow_succ] at hN13
     have h3 : 0 < 13 ^ r := Nat.pow_pos (by decide)
     generalize 13 ^ r = c at *
     generalize k * c = kc at *
     omega
    gi_wp2_with (gi_at_mapUpdate; refine wpListIn_mapUpdate_own _ rfl _ _ _ 199 rfl 3 60 (Maps.int_keyed Tryz.underlying3) Tryz.underlying199 qx b (N + k * 13 ^ r) D rfl hown hNb _ _ (.int .i64 (ids.length : Int)) rfl rfl (Dc ids.length (by omega)) (nV (s1, s2, s3, s4)) [] (pZ (s1, s2, s3, s4)) ?_; intro W5 hown5 hg5; have HU5 := yz hown5; have HG5 := yz hg5; clear hown5 hg5; have C5 := yz ((yy C4).keptM (KpM.of_grown (b := b) (p := p) (q := q) (yy HG5)) (by omega) (by omega) (by omega)); obtain ⟨x0, x1, x2⟩ := yy C5)
    have J5 := yz (yy HJA _ _ _ (yy J4) (yy N4).isMap (yy HG5))
    have K5 := yz ((yy K4).trans (KpM.of_grown (b := b) (p := p) (q := q) (yy HG5)))
    have N5 : Hid (bF W5 b (N + k * 13 ^ r + 1) L (ids ++ [s1])) := yz ⟨_, yy HU5, by
     have h1 := hM.put (a := s1) hown.isMap (yy HS1)
     rw [yy HAT] at h1
     exact h1⟩
    have S5 := yz (Bg (yy S1) (yy K5) hA)
    have D5 := yz (DJ (yy D1) (yy K5) hB)
    have hw5 : w.heap.size + 1 ≤ W5.heap.size := Nat.le_trans hw4 (yy HG5).size
    have HLN : Hid (((ids ++ [s1]).length : Int) = (ids.length : Int) + 1) := yz (by simp)
    have cI := yz (fun (j : Nat) => yy HIH (ids ++ [s1]) (pre ++ gZ (da L S) (L.map (·.1)) r ids k) (N + k * 13 ^ r + 1) j W5 (by rw [List.length_append, List.length_singleton]; omega) (by
     have h1 : k * 13 ^ r ≤ 11 * 13 ^ r := Nat.mul_le_mul_right _ (by omega)
     rw [Nat.pow_succ] at hN13
     have h3 : 0 < 13 ^ r := Nat.pow_pos (by decide)
     generalize 13 ^ r = c at *
     generalize k * c = kc at *
     omega) (yy N5) (yy S5) (yy D5) (by omega) (by omega) (yy J5))
    rw [yy HLN] at cI
    clear c0 c1 c2 e0 e1 e2 e3 J4 N4 K4 C4 E4 HU5 hown hM HG5 J5 N5 S5 D5
    refine ⟨trivial, fun h => (by cases h), ?_⟩
    refine (yy cI _).mono ?_
    rintro e W6 ⟨rfl, hJ6, hN6, hK6⟩
    have J6 := yz hJ6
    have K6 := yz ((yy K5).trans hK6)
    have C6 := yz ((yy C5).keptM hK6 (by omega) (by omega) (by omega))
    have N6 := yz hN6
    have hw6 : w.heap.size + 1 ≤ W6.heap.size := Nat.le_trans hw5 hK6.size
    clear x0 x1 x2 hJ6 hN6 hK6 K5 C5 cI
    obtain ⟨x0, x1, x2⟩ := yy C6
    obtain ⟨D6, hown6, hM6⟩ := yy N6
    gi_wp2_with (gi_at_delete; refine wpListIn_delete_own _ rfl _ _ 199 3 rfl 60 (Maps.int_keyed Tryz.underlying3) Tryz.underlying199 qx b _ D6 rfl hown6 _ (.int .i64 (ids.length : Int)) rfl (Dc ids.length (by omega)) ?_; intro W7 hown7 ht7; have HU7 := yz hown7; have HG7 := yz ht7.grown; clear hown7 ht7)
    have J7 : Hid (J (pre ++ gZ (da L S) (L.map (·.1)) r ids (k + 1)) W7) := yz (by rw [yy HR, ← List.append_assoc]; exact yy HJA _ _ _ (yy J6) (yy N6).isMap (yy HG7))
    have K7 := yz ((yy K6).trans (KpM.of_grown (b := b) (p := p) (q := q) (yy HG7)))
    have N7 : Hid (bF W7 b (N + (k + 1) * 13 ^ r) L ids) := yz ⟨_, (yy HU7).mono (by
     have h3 : 0 < 13 ^ r := Nat.pow_pos (by decide)
     rw [Nat.succ_mul]
     generalize 13 ^ r = c at *
     generalize k * c = kc at *
     omega), hM6.del⟩
    clear x0 x1 x2 J6 K6 C6 N6 hown6 hM6 HU7 HG7
    gi_wp2
    go_roundw
    case rel => first | exact ⟨k + 1, by omega, by go_num, J7, N7, K7⟩ | exact ⟨k + 1, by omega, by go_num, J7, N7⟩ | trace_state
    case measure => simp [intOf]; omega
  ·obtain rfl : k = L.length := by omega
   have HLN : Hid (((ids ++ [(0 : Int)]).length : Int) = (ids.length : Int) + 1) := yz (by simp)
   have N5 : Hid (bF wr b (N + L.length * 13 ^ r) L (ids ++ [0])) := yz (by obtain ⟨D, h1, h2⟩ := yy HNr; exact ⟨D, h1, h2.snoc0⟩)
   have cI := yz (fun (j : Nat) => yy HIH (ids ++ [0]) (pre ++ gZ (da L S) (L.map (·.1)) r ids L.length) (N + L.length * 13 ^ r) j wr (by rw [List.length_append, List.length_singleton]; omega) (by
    have h1 : L.length * 13 ^ r ≤ 12 * 13 ^ r := Nat.mul_le_mul_right _ hn12
    rw [Nat.pow_succ] at hN13
    generalize 13 ^ r = c at *
    generalize L.length * c = kc at *
    omega) (yy N5) (yy Sr) (yy Dr) (by omega) (by omega) (yy HJr))
   rw [yy HLN] at cI
   gi_wp2
   refine ⟨trivial, fun h => (by cases h), ?_⟩
   refine (yy cI _).mono ?_
   rintro e W6 ⟨rfl, hJ6, hN6, hK6⟩
   have J6 := yz hJ6
   have N6 := yz hN6
   have K6 := yz (((yy HK0).trans (yy HKr)).trans hK6)
   clear hJ6 hN6 hK6 cI N5 c0 c1 c2
   gi_wp2
   go_ret
   refine ⟨rfl, ?_, ?_, yy K6⟩
   ·rw [An, ← List.append_assoc, List.length_map]
    exact yy J6
   ·obtain ⟨D, h1, h2⟩ := yy N6
    refine ⟨D, h1.mono ?_, fun i hi => ?_⟩
    ·have h3 : L.length * 13 ^ r ≤ 12 * 13 ^ r := Nat.mul_le_mul_right _ hn12
     have h4 : 0 < 13 ^ r := Nat.pow_pos (by decide)
     rw [Nat.pow_succ]
     generalize 13 ^ r = c at *
     generalize L.length * c = kc at *
     omega
    ·have h5 := h2 i hi
     unfold ef at h5 ⊢
     rw [qn] at h5
     exact h5
theorem uY (L : List St) (S : List D3) (ar br : Option Addr) (cr dr b l p q : Nat) (J : List (List Int) → World → Prop) (hk : aV L = true) (hm : S.length ≤ 6) (hJ : JAb b J) (hY : oN l p q J) (hbp : b ≠ p) (hbq : b ≠ q) (hA : jS ar b p q) (hB : jS br b p q) : ∀ r, Dd L S ar br cr dr b l p q J r
 | 0 => zW L S ar br cr dr b l p q J hm hJ hY hbp hbq
 | r + 1 => zk L S ar br cr dr b l p q r J hk hm hJ hbp hbq hA hB (uY L S ar br cr dr b l p q J hk hm hJ hY hbp hbq hA hB r)
end
end Go.Proofs.YtlleafjdgblhcaaGreatDoor
