/- Several texts in one: IeI, IeJ, IeK, IeL, IeN, IeO, IeQ, IeR, ModI. -/
import Derived.RangeFuncNested
import Derived.RangeFuncBound
import Derived.RangeFuncCalls
import Derived.RangeFuncLeaves
import Derived.Shelf.Abstract
import Derived.Shelf.RegionOpen
import Derived.WalkKit
import Derived.OwnWalkIn
import Derived.TacticsInMore
import Derived.LoopNIn
import Derived.LoopIn
import Derived.Maps.OwnIn
import Derived.BigRegionIn
import Derived.Test.YtdchjcadhlkpfaaGreatDoorQFnTopOwn19
import Derived.Test.YtdchjcadhlkpfaaGreatDoorQFnTopOwn1
import Derived.Test.YtdchjcadhlkpfaaGreatDoorQFnTopOwn17
namespace Go.Proofs.YtdchjcadhlkpfaaGreatDoor
set_option linter.unusedVariables false
set_option linter.unusedSimpArgs false
set_option maxRecDepth 100000
set_option maxHeartbeats 8000000
section
open Go.RowKit Go.Sort
theorem qL (L : List St) (S : List D3) (ids : List Int) (n : Nat) (ar br : Option Addr) (nl cr dr b N : Nat) (w : World) (hm : S.length ≤ 6) (hn : n ≤ S.length) (hD : bG w br S S.length) (hN : aX w b N L ids) :
  Calls Tryz.prog 181 #[.agg #[.slice ar nl cr, .slice br S.length dr, .map (some b)], .int .i64 (n : Int)] w fun e w' => (∃ v, e = .returned v ∧ w'.ownsRow (w.heap.size + 1) 238 7 v (aq L S ids n).length (bm (aq L S ids n))) ∧ Below w.heap.size w w' := by
 obtain ⟨i0, hinf, hz0, hz1, hz2⟩ := info_parts jL
 have hm8 : 1000 ≤ maxLen := by decide +kernel
 have B0 := an w (.cells #[.slice ar nl cr, .slice br S.length dr, .map (some b)] 211)
 have C0 : lf (w.alloc (.cells #[.slice ar nl cr, .slice br S.length dr, .map (some b)] 211)) w.heap.size (.slice ar nl cr) (.slice br S.length dr) (.map (some b)) := by refine ⟨?_, ?_, ?_⟩ <;> simp
 have HSn := yz (ez L S ids)
 have HLE := yz (ec L S ids)
 have HSO : Hid (∀ i, mB L S ids i = (vA S i, (ids.getD i 0, atV L L.length (ids.getD i 0)))) := yz (fun i => rfl)
 have HNS : Hid (∀ i, ids.getD i 0 ≠ 0 → bI L ids i = (ids.getD i 0, atV L L.length (ids.getD i 0))) := yz (fun i h => by unfold bI; rw [if_pos h])
 have HNZ : Hid (∀ i, ids.getD i 0 = 0 → bI L ids i = (0, 0, 0, 0)) := yz (fun i h => by unfold bI; rw [if_neg (by simpa using h)]; rfl)
 have HD := yz (hD.kept B0)
 have HN0 := yz (hN.below B0)
 have HC0 := yz C0
 have HB0 := yz B0
 have hsz : (w.alloc (.cells #[.slice ar nl cr, .slice br S.length dr, .map (some b)] 211)).heap.size = w.heap.size + 1 := by simp
 clear B0 C0 hD hN
 generalize hme : S.length = m at *
 go_enter Tryz.func181, Tryz.ntmps181
 go_wp2_with fail
 generalize hW : w.alloc (.cells #[.slice ar nl cr, .slice br m dr, .map (some b)] 211) = W at *
 clear hW
 go_loopw [5, 10] (fun v kk wr => ∃ i : Nat, i ≤ n ∧ kk = .int .i64 i ∧ Hid (wr.ownsRow (w.heap.size + 1) 238 7 v (aq L S ids i).length (bm (aq L S ids i))) ∧ Hid (Below W.heap.size W wr)) (fun _ kk _ => n - (intOf kk).toNat)
 case atStart => exact ⟨0, by omega, rfl, yz (World.ownsRow_nil _ _ _ _), yz (Below.refl _ _)⟩
 case round =>
  obtain ⟨i, hi, rfl, HO, HB⟩ := hrel
  by_cases hin : i < n
  ·have hin2 : (i : Int) < (n : Int) := by omega
   have hr := ((yy HN0).below (yy HB)).lookOk i (by omega)
   obtain ⟨c0, c1, c2⟩ := (yy HC0).kept (yy HB)
   have HSN := yz (yy HSn i)
   have HSI := yz (yy HSO i)
   have hns := yy HNS i
   have hnz := yy HNZ i
   have hle := yy HLE i
   generalize ids.getD i 0 = id at *
   by_cases hid : id = 0
   ·subst hid
    rw [hnz rfl] at hr
    unfold stV at hr
    simp only [ne_eq, not_true_eq_false, decide_false] at hr
    rw [if_neg (by simp), List.append_nil] at HSN
    have Z := an wr (.cells #[.int .i64 0, .int .i64 0, .int .i64 0, .int .i64 0] 74)
    have HO3 : Hid ((wr.alloc (.cells #[.int .i64 0, .int .i64 0, .int .i64 0, .int .i64 0] 74)).ownsRow (w.heap.size + 1) 238 7 u5 (aq L S ids (i + 1)).length (bm (aq L S ids (i + 1)))) := yz (by rw [yy HSN]; exact gP (yy HO) Z)
    have HB3 := yz (ak (yy HB) Z)
    clear Z HO HB hns hnz
    go_wp2_with fail
    go_roundw
    case rel => first | exact ⟨i + 1, by omega, by go_num, HO3, HB3⟩ | trace_state
    case measure => simp [intOf] <;> omega
   ·have hid' : decide (id ≠ 0) = true := by simp [hid]
    rw [hns hid, hid'] at hr
    rw [if_pos hid, yy HSI] at HSN
    clear HSI hns hnz
    generalize atV L L.length id = q at *
    obtain ⟨q1, q2, q3⟩ := q
    unfold stV at hr
    dsimp only at hr
    have HU : Hid (∀ z, u5.ownBlock = some z → w.heap.size + 1 ≤ z ∧ z < wr.heap.size) := yz (fun z e => (yy HO).lt z e)
    have Z := an wr (.cells #[.int .i64 id, .int .i64 q1, .int .i64 q2, .int .i64 q3] 74)
    have HO2 := yz (gP (yy HO) Z)
    have HB2 := yz (ak (yy HB) Z)
    have N2 := yz (cq wr (id, q1, q2, q3) 74)
    clear Z HO HB
    go_wp2_with fail
    clear c0 c1 c2 hr
    generalize wr.alloc (.cells #[.int .i64 id, .int .i64 q1, .int .i64 q2, .int .i64 q3] 74) = W2 at HO2 HB2 N2 ⊢
    generalize wr.heap.size = tb at *
    rcases yy HD with h | ⟨bb, bo, rfl, hbb, hbc⟩
    ·omega
    have hst := (hbc i (by omega)).kept hbb (yy HB2)
    obtain ⟨_, x1, _⟩ := (yy HC0).kept (yy HB2)
    clear hbc
    generalize vA S i = sv at *
    obtain ⟨v1, v2, v3⟩ := sv
    obtain ⟨c0, c1, c2⟩ := hst
    obtain ⟨d0, d1, d2, d3⟩ := yy N2
    simp only [Nat.zero_add] at d0 d1 d2 d3
    simp only at c0 c1 c2
    have him : (i : Int) < (m : Int) := by omega
    refine wp_region_held_drew (S := (fun w' => w'.cell? ⟨w.heap.size, 1, none⟩ = some (.slice (some ⟨bb, bo, none⟩) m dr) ∧ (w'.cell? ⟨bb, bo + i * 3, none⟩ = some (.int .i64 v1) ∧ w'.cell? ⟨bb, bo + i * 3 + 1, none⟩ = some (.int .i64 v2) ∧ w'.cell? ⟨bb, bo + i * 3 + 2, none⟩ = some (.int .i64 v3)) ∧ w'.cell? ⟨tb, 0, none⟩ = some (.int .i64 id) ∧ w'.cell? ⟨tb, 1, none⟩ = some (.int .i64 q1) ∧ w'.cell? ⟨tb, 2, none⟩ = some (.int .i64 q2) ∧ w'.cell? ⟨tb, 3, none⟩ = some (.int .i64 q3))) (by kernel_rfl) ?_ (fun hHeld => ?_)
    ·exact ⟨x1, ⟨c0, c1, c2⟩, d0, d1, d2, d3⟩
    refine ac 0 rfl ?_
    try simp only [Act.put, ah, ai, aj]
    refine ac 1 rfl ?_
    try simp only [Act.put, ah, ai, aj]
    refine ac 2 rfl ?_
    try simp only [Act.put, ah, ai, aj]
    refine ac 3 rfl ?_
    try simp only [Act.put, ah, ai, aj]
    refine ac 4 rfl ?_
    try simp only [Act.put, ah, ai, aj]
    refine ac 5 rfl ?_
    try simp only [Act.put, ah, ai, aj]
    refine ac 6 rfl ?_
    try simp only [Act.put, ah, ai, aj]
    refine ac 7 rfl ?_
    try simp only [Act.put, ah, ai, aj]
    have HK : Hid (∀ W' : World, Below W2.heap.size W2 W' → (W'.cell? ⟨w.heap.size, 1, none⟩ = some (.slice (some ⟨bb, bo, none⟩) m dr) ∧ (W'.cell? ⟨bb, bo + i * 3, none⟩ = some (.int .i64 v1) ∧ W'.cell? ⟨bb, bo + i * 3 + 1, none⟩ = some (.int .i64 v2) ∧ W'.cell? ⟨bb, bo + i * 3 + 2, none⟩ = some (.int .i64 v3)) ∧ W'.cell? ⟨tb, 0, none⟩ = some (.int .i64 id) ∧ W'.cell? ⟨tb, 1, none⟩ = some (.int .i64 q1) ∧ W'.cell? ⟨tb, 2, none⟩ = some (.int .i64 q2) ∧ W'.cell? ⟨tb, 3, none⟩ = some (.int .i64 q3))) := yz (fun W' h => ⟨aU x1 h, ⟨aU c0 h, aU c1 h, aU c2 h⟩, aU d0 h, aU d1 h, aU d2 h, aU d3 h⟩)
    have HOd : Hid (W2.drew.ownsRow (w.heap.size + 1) 238 7 u5 (aq L S ids i).length (bm (aq L S ids i))) := HO2
    have HBd := yz ((Below.refl W2.heap.size W2).drew)
    clear c0 c1 c2 d0 d1 d2 d3 x1 N2
    refine af 8 rfl fun K hK => ?_
    go_simp
    have Z5 := an W2.drew (.cells #[.int .i64 v1, .int .i64 v2, .int .i64 v3, .int .i64 id, .int .i64 q1, .int .i64 q2, .int .i64 q3] 238)
    have hown := gP (yy HOd) Z5
    have HB5 := yz (ak (yy HBd) Z5)
    have hszd : W2.drew.heap.size = W2.heap.size := rfl
    have hbW : W.heap.size ≤ W2.heap.size := (yy HB2).size
    clear Z5 HOd HBd
    refine hK.out _ _ (yy HK _ (yy HB5)) (fun hHeld3 => ?_)
    clear hK K hHeld
    refine af 9 rfl fun K hK => ?_
    refine gY rfl _ _ 235 rfl (w.heap.size + 1) 238 i0 (.agg #[.int .i64 0, .int .i64 0, .int .i64 0, .int .i64 0, .int .i64 0, .int .i64 0, .int .i64 0]) 7 56 Tryz.underlying235 hinf hz0 hz1 hz2 rfl (by decide) _ _ _ rfl hown ⟨W2.drew.heap.size, 0, none⟩ 1 1 (bm [((v1, v2, v3), (id, q1, q2, q3))]) rfl rfl ?d2 (fun u hu => jo hu) ?d3 ?d4 ?d5 ?_
    case d2 => first | exact fun j u h => h | exact iZ _ _ _
    case d3 => omega
    case d4 => omega
    case d5 => first | omega | (simp; omega)
    intro v7 V7 hown7 hgrow7
    have neb : ∀ z, z < w.heap.size + 1 ∨ tb ≤ z → some z ≠ u5.ownBlock := fun z hz e => by have := yy HU z e.symm; omega
    have HB8 : Hid (Below W.heap.size W V7) := yz ((ak (yy HB2) (yy HB5)).trans ⟨hgrow7.os, hgrow7.tape, hgrow7.output, hgrow7.size, fun z hz => hgrow7.block z (by simp; omega) (neb z (.inl (by omega)))⟩)
    have HO8 : Hid (V7.ownsRow (w.heap.size + 1) 238 7 v7 (aq L S ids (i + 1)).length (bm (aq L S ids (i + 1)))) := yz (by rw [yy HSN, jT, List.length_append]; exact hown7)
    obtain ⟨k1, ⟨k2, k3, k4⟩, k5, k6, k7, k8⟩ := yy HK _ (yy HB5)
    have hbb2 : bb < w.heap.size + 1 := by omega
    have k1' := bf k1 hgrow7 (neb _ (.inl (show w.heap.size < w.heap.size + 1 by omega)))
    have k2' := bf k2 hgrow7 (neb _ (.inl hbb2))
    have k3' := bf k3 hgrow7 (neb _ (.inl hbb2))
    have k4' := bf k4 hgrow7 (neb _ (.inl hbb2))
    have k5' := bf k5 hgrow7 (neb _ (.inr (Nat.le_refl _)))
    have k6' := bf k6 hgrow7 (neb _ (.inr (Nat.le_refl _)))
    have k7' := bf k7 hgrow7 (neb _ (.inr (Nat.le_refl _)))
    have k8' := bf k8 hgrow7 (neb _ (.inr (Nat.le_refl _)))
    clear hown7 hgrow7 hown k1 k2 k3 k4 k5 k6 k7 k8 neb HB5 HB2 HO2
    refine hK.out _ _ ⟨k1', ⟨k2', k3', k4'⟩, k5', k6', k7', k8'⟩ (fun hHeld4 => ?_)
    clear hK K hHeld3
    refine af 10 rfl fun K hK => ?_
    go_simp
    refine hK.out _ _ ⟨k1', ⟨k2', k3', k4'⟩, k5', k6', k7', k8'⟩ (fun hHeld5 => ?_)
    clear hK K hHeld4
    refine wpAnyH_done (by kernel_rfl) ?_ _
    clear k1' k2' k3' k4' k5' k6' k7' k8' hHeld5 HK
    go_wp2_with fail
    go_roundw
    case rel => first | exact ⟨i + 1, by omega, by go_num, HO8, HB8⟩ | trace_state
    case measure => simp [intOf] <;> omega
  ·have hin' : i = n := by omega
   subst hin'
   go_wp2_with fail
   go_ret
   exact ⟨⟨_, rfl, yy HO⟩, ak (yy HB0) (yy HB)⟩
end
section
open Go.RowKit Go.Sort
theorem rU (ids : List Int) {i : Nat} (hi : i < ids.length) : aP (ids.take (i + 1)) = aP (ids.take i) + if ids.getD i 0 ≠ 0 then 1 else 0 := by
 rw [List.take_succ_eq_append_getElem hi, iW]
 have e : ids.getD i 0 = ids[i] := by rw [List.getD_eq_getElem?_getD, List.getElem?_eq_getElem hi]; rfl
 rw [e]
theorem de (ids : List Int) (a : Option Addr) (c : Nat) (w : World) (hk : ids.length ≤ 1048576) (hI : fR w a ids ids.length) :
  Calls Tryz.prog 144 #[.slice a ids.length c] w fun e w' => e = .returned (.int .i64 (aP ids : Int)) ∧ w' = w := by
 have HT : Hid (aP (ids.take ids.length) = aP ids) := yz (by rw [List.take_length])
 rcases hI with h0 | ⟨b, o, rfl, hb, hc⟩
 ·have e : ids = [] := List.eq_nil_of_length_eq_zero h0
  subst e
  go_enter Tryz.func144, Tryz.ntmps144
  go_wp2_with fail
  refine wp_loop_rounds 1 ?_
  rw [rounds_succ]
  go_wp2_with fail
  go_ret
  exact ⟨rfl, rfl⟩
 have HC := yz hc
 clear hc
 go_enter Tryz.func144, Tryz.ntmps144
 go_wp2_with fail
 go_loop [3, 8] (fun q i => ∃ k : Nat, k ≤ ids.length ∧ i = .int .i64 k ∧ q = .int .i64 (aP (ids.take k) : Int)) (fun _ i => ids.length - (intOf i).toNat)
 case atStart => exact ⟨0, Nat.zero_le _, rfl, rfl⟩
 case round =>
  obtain ⟨k, hkl, rfl, rfl⟩ := hrel
  by_cases hkn : k < ids.length
  ·have c0 := yy HC k hkn
   have HS := yz (rU ids hkn)
   have hle := qg (ids.take k)
   rw [List.length_take] at hle
   have hle2 : (aP (ids.take k) : Int) ≤ 1048576 := by omega
   have hkn2 : (k : Int) < (ids.length : Int) := by omega
   generalize ids.getD k 0 = z at *
   by_cases hz : z = 0
   ·have HS2 : Hid (aP (ids.take (k + 1)) = aP (ids.take k)) := yz (by rw [yy HS, if_neg (by simpa using hz)]; rfl)
    subst hz
    go_wp2_with fail
    go_round
    case rel => exact ⟨k + 1, by omega, by go_num, by rw [yy HS2]⟩
    case measure => simp [intOf]; omega
   ·have HS2 : Hid (aP (ids.take (k + 1)) = aP (ids.take k) + 1) := yz (by rw [yy HS, if_pos hz])
    go_wp2_with fail
    go_round
    case rel => exact ⟨k + 1, by omega, by go_num, by rw [yy HS2]; go_num⟩
    case measure => simp [intOf]; omega
  ·obtain rfl : k = ids.length := by omega
   go_wp2_with fail
   go_ret
   exact ⟨rfl, rfl⟩
def bK (L : List St) (S : List D3) : List Int × Nat := (cH (eM L S) (L.map (·.1)) S.length []).foldl bO ([], 0)
theorem kY (L : List St) (S : List D3) : oD L S = (if (bK L S).2 = 1 then (bK L S).1 else []) ∧ qo L S = (if (bK L S).2 = 1 then (aP (bK L S).1 : Int) else 0) ∧ kt L S = (if (bK L S).2 = 0 then 6 else if 1 < (bK L S).2 then 11 else 0) := by
 have h := rj (eM L S) (L.map (·.1)) S.length
 unfold oD qo kt
 change lN (idR L S) (bK L S) at h
 rcases h with ⟨h1, h2, h3⟩ | ⟨h1, h2, h3, h4, h5⟩
 ·rw [h1, h3]
  exact ⟨rfl, rfl, rfl⟩
 ·rw [h4]
  refine ⟨?_, ?_, rfl⟩
  ·split
   ·rename_i e; exact h5 e
   ·rfl
  ·split
   ·rw [h3]
   ·rfl
end
section
open Go.RowKit Go.Sort Go.Shelf
attribute [local go_sem] Oper.semAt_some
abbrev Nam := List Int × Nat
def vE (x : Nam) : Value := .slice (some ⟨x.2, 0, none⟩) x.1.length x.1.length
def vW (x : Nam) (w : World) : Prop := bt w 2 x.2 (x.1.length * 1) (jX x.1)
structure KpX (p q : Nat) (W W' : World) : Prop where
 size : W.heap.size ≤ W'.heap.size
 os : W'.os = W.os
 tape : W'.tape = W.tape
 output : W'.output = W.output
 same : ∀ k o, W.heap[k]? = some o → (o.isCells = true ∨ o.isWalk = true) → k ≠ p → k ≠ q → W'.heap[k]? = some o
theorem KpX.trans {p q : Nat} {A B C : World} (h : KpX p q A B) (k : KpX p q B C) : KpX p q A C := ⟨Nat.le_trans h.size k.size, k.os.trans h.os, k.tape.trans h.tape, k.output.trans h.output, fun i o hi ho h1 h2 => k.same i o (h.same i o hi ho h1 h2) ho h1 h2⟩
theorem KpX.of_below {p q : Nat} {A B : World} (h : Below A.heap.size A B) : KpX p q A B := ⟨h.size, h.os, h.tape, h.output, fun i o hi _ _ _ => by rw [h.block i (Array.getElem?_eq_some_iff.1 hi).1]; exact hi⟩
def jF (l p q : Nat) (J : List (List Int) → World → Prop) : Prop := ∀ m pre (x : Nam) W, J pre W → (∃ W0, J pre W0 ∧ W0.heap.size ≤ x.2) → vW x W → x.1.length ≤ 6 → YieldAt Fence.wide m Tryz.prog l #[vE x] W fun e W' => e = .returned (.bool true) ∧ J (pre ++ [x.1]) W' ∧ KpX p q W W'
theorem rM (L : List St) (S : List D3) (ids : List Int) (ar br : Option Addr) (cr dr b N l p q n : Nat) (J : List (List Int) → World → Prop) (pre : List (List Int)) (w : World) (hm : S.length ≤ 6) (hl : ids.length = S.length) (hN : aX w b N L ids)
  (hJ : J pre w) (hJa : ∀ W W', J pre W → Below W.heap.size W W' → J pre W') (hY : jF l p q J) :
  CallsIn Fence.wide n Tryz.prog 165 #[.agg #[.slice ar L.length cr, .slice br S.length dr, .map (some b)], .int .i64 (ids.length : Int), .func (.yield l) #[] #[]] w fun e W' => e = .returned (.bool true) ∧ J (pre ++ [ids]) W' ∧ KpX p q w W' := by
 have B0 := an w (.cells #[.slice ar L.length cr, .slice br S.length dr, .map (some b)] 211)
 have HB := yz B0
 have HJ := yz (hJa _ _ hJ B0)
 have cI := yz (fun (k : Nat) => callsIn_wide (n := k) |>.2 (uC L ids S.length ar br L.length cr dr b N _ hm (hN.below B0)))
 have HY := yz hY
 have HJa := yz hJa
 clear B0 hN hJ hY hJa
 rw [hl]
 refine callsIn_of_wp Tryz.func165 rfl trivial ?_ rfl
 simp only [Tryz.ntmps165, List.size_toArray, List.length_cons, List.length_nil, Nat.reduceAdd, Nat.reduceSub, Array.replicate_succ, Array.replicate_zero, List.push_toArray, List.append_toArray, List.nil_append, List.cons_append]
 gi_wp2
 refine ⟨trivial, fun h => (by cases h), ?_⟩
 refine (yy cI _).mono ?_
 rintro e w1 ⟨rfl, hrow, hx⟩
 have hsz : (w.alloc (.cells #[.slice ar L.length cr, .slice br S.length dr, .map (some b)] 211)).heap.size = w.heap.size + 1 := by simp
 rw [hsz] at hrow ⊢
 have HY1 := yy HY (n - 1) pre (ids, w.heap.size + 1 + 1) w1 (yy HJa _ _ (yy HJ) hx) ⟨_, yy HJ, by simp⟩ (by unfold vW; dsimp only; rw [hl]; exact hrow) (by dsimp only; omega)
 unfold vE at HY1
 dsimp only at HY1
 rw [hl] at HY1
 have HK := yz (KpX.of_below (p := p) (q := q) (ak (yy HB) hx))
 clear hrow hx hsz cI HY HJa HJ HB
 obtain ⟨fn, tmps, assign, body, hy, hR⟩ := HY1
 gi_wp2
 refine ⟨fun h => (by cases h), ?_⟩
 refine hR.mono ?_
 rintro e w2 ⟨rfl, hJ2, hk2⟩
 have HJ2 := yz hJ2
 have HK2 := yz ((yy HK).trans hk2)
 clear hJ2 hk2 hR hy HK
 gi_wp2
 go_ret
 exact ⟨rfl, yy HJ2, yy HK2⟩
end
section
open Go.RowKit Go.Sort
theorem mP {i j : Nat} (h : i ≠ j) : (Lit.int .i64 (i : Int)) ≠ Lit.int .i64 (j : Int) := fun e => h (by injection e with _ e; omega)
theorem fm (ids : List Int) (a : Int) {i : Nat} (h : i < ids.length) : (ids ++ [a]).getD i 0 = ids.getD i 0 := by rw [List.getD_eq_getElem?_getD, List.getD_eq_getElem?_getD, List.getElem?_append_left h]
theorem ix (ids : List Int) (a : Int) : (ids ++ [a]).getD ids.length 0 = a := by rw [List.getD_eq_getElem?_getD, List.getElem?_append_right (Nat.le_refl _), Nat.sub_self]; rfl
theorem fg (ids : List Int) (a : Int) {i : Nat} (h : ids.length < i) : (ids ++ [a]).getD i 0 = 0 := by
 rw [List.getD_eq_getElem?_getD, List.getElem?_append_right (by omega), List.getElem?_eq_none (by simp; omega)]
 rfl
theorem fJ (ids : List Int) {i : Nat} (h : ids.length ≤ i) : ids.getD i 0 = 0 := by rw [List.getD_eq_getElem?_getD, List.getElem?_eq_none h]; rfl
theorem jO (ids : List Int) (i : Nat) : (ids ++ [(0 : Int)]).getD i 0 = ids.getD i 0 := by
 rcases Nat.lt_trichotomy i ids.length with h | h | h
 ·exact fm ids 0 h
 ·rw [h, ix, fJ ids (Nat.le_refl _)]
 ·rw [fg ids 0 h, fJ ids (by omega)]
theorem gr.snoc0 {D : DataW Unit} {L : List St} {ids : List Int} (h : gr D L ids) : gr D L (ids ++ [0]) := fun i hi => by
 have h1 := h i hi
 unfold bI at h1 ⊢
 rw [jO]
 exact h1
theorem gr.put {D : DataW Unit} {L : List St} {ids : List Int} {a : Int} (h : gr D L ids) (hm : Maps.IsMap D) (ha : a ≠ 0) : gr (D.put (.int .i64 (ids.length : Int)) (jh (a, atV L L.length a))) L (ids ++ [a]) := fun i hi => by
 by_cases e : i = ids.length
 ·subst e
  rw [Maps.has_put_same hm (by trivial), Maps.atKey_put_same hm (by trivial)]
  unfold bI
  rw [ix, if_pos ha]
  exact ⟨by simp [ha], rfl⟩
 ·rw [Maps.has_put_other (mP e), Maps.atKey_put_other (mP e)]
  have h1 := h i hi
  unfold bI at h1 ⊢
  have e2 : (ids ++ [a]).getD i 0 = ids.getD i 0 := by
   rcases Nat.lt_or_gt_of_ne e with h2 | h2
   ·exact fm ids a h2
   ·rw [fg ids a h2, fJ ids (by omega)]
  rw [e2]
  exact h1
theorem gr.del {D : DataW Unit} {L : List St} {ids : List Int} {a : Int} (h : gr D L (ids ++ [a])) : gr (D.del (.int .i64 (ids.length : Int))) L ids := fun i hi => by
 by_cases e : i = ids.length
 ·subst e
  rw [Maps.has_del_same, Maps.atKey_del_same]
  unfold bI
  rw [fJ ids (Nat.le_refl _), if_neg (by simp)]
  exact ⟨by simp, rfl⟩
 ·rw [Maps.has_del_other (mP e), Maps.atKey_del_other (mP e)]
  have h1 := h i hi
  unfold bI at h1 ⊢
  have e2 : (ids ++ [a]).getD i 0 = ids.getD i 0 := by
   rcases Nat.lt_or_gt_of_ne e with h2 | h2
   ·exact fm ids a h2
   ·rw [fg ids a h2, fJ ids (by omega)]
  rw [e2] at h1
  exact h1
def ed (F : List Int → Int → Bool) (A : List Int) (r : Nat) (ids : List Int) (i : Nat) : List (List Int) := ((A.take i).filter (F ids)).flatMap (fun a => cH F A r (ids ++ [a]))
theorem pa (F : List Int → Int → Bool) (A : List Int) (r : Nat) (ids : List Int) : ed F A r ids 0 = [] := rfl
theorem km (F : List Int → Int → Bool) (A : List Int) (r : Nat) (ids : List Int) {i : Nat} (hi : i < A.length) : ed F A r ids (i + 1) = ed F A r ids i ++ if F ids (A.getD i 0) = true then cH F A r (ids ++ [A.getD i 0]) else [] := by
 unfold ed
 rw [List.take_succ_eq_append_getElem hi, List.filter_append, List.flatMap_append]
 have e : A.getD i 0 = A[i] := by rw [List.getD_eq_getElem?_getD, List.getElem?_eq_getElem hi]; rfl
 rw [e]
 congr 1
 cases h : F ids A[i] <;> simp [h]
theorem qG (F : List Int → Int → Bool) (A : List Int) (r : Nat) (ids : List Int) : cH F A (r + 1) ids = ed F A r ids A.length ++ cH F A r (ids ++ [0]) := by
 unfold ed
 rw [List.take_length]
 rfl
theorem tJ (L : List St) (S : List D3) (ids : List Int) (a : Int) : eM L S ids a = bM (aq L S ids ids.length) (vA S ids.length, (a, atV L L.length a)) (aq L S ids ids.length).length := qb L S ids _ ids.length
end
section
open Go.RowKit Go.Sort Go.Shelf
attribute [local go_sem] Oper.semAt_some
structure KpM (b p q : Nat) (W W' : World) : Prop where
 size : W.heap.size ≤ W'.heap.size
 os : W'.os = W.os
 tape : W'.tape = W.tape
 output : W'.output = W.output
 same : ∀ k o, W.heap[k]? = some o → (o.isCells = true ∨ o.isWalk = true) → k ≠ b → k ≠ p → k ≠ q → W'.heap[k]? = some o
theorem KpM.trans {b p q : Nat} {A B C : World} (h : KpM b p q A B) (k : KpM b p q B C) : KpM b p q A C := ⟨Nat.le_trans h.size k.size, k.os.trans h.os, k.tape.trans h.tape, k.output.trans h.output, fun i o hi ho h0 h1 h2 => k.same i o (h.same i o hi ho h0 h1 h2) ho h0 h1 h2⟩
theorem KpX.toM {b p q : Nat} {A B : World} (h : KpX p q A B) : KpM b p q A B := ⟨h.size, h.os, h.tape, h.output, fun i o hi ho _ h1 h2 => h.same i o hi ho h1 h2⟩
theorem KpM.of_grown {b p q : Nat} {A B : World} (h : A.grownBy B (some b)) : KpM b p q A B := ⟨h.size, h.os, h.tape, h.output, fun i o hi _ h0 _ _ => by rw [h.block i (Array.getElem?_eq_some_iff.1 hi).1 (fun e => h0 (Option.some.inj e))]; exact hi⟩
theorem KpM.of_below {b p q : Nat} {A B : World} (h : Below A.heap.size A B) : KpM b p q A B := KpM.of_grown (gh h)
theorem KpM.cell {b p q : Nat} {A B : World} (h : KpM b p q A B) {a : Addr} {v : Value} (hc : A.cell? a = some v) (h0 : a.block ≠ b) (h1 : a.block ≠ p) (h2 : a.block ≠ q) : B.cell? a = some v := by
 obtain ⟨o, ho, hi⟩ := cells_of_cell hc
 have e := h.same a.block o ho (.inl hi) h0 h1 h2
 rw [← hc]
 exact World.cell?_of_block (e.trans ho.symm)
def fO (a : Option Addr) (b p q : Nat) : Prop := ∀ y, a = some y → y.block ≠ b ∧ y.block ≠ p ∧ y.block ≠ q
theorem tK {b p q : Nat} {w w' : World} {a : Option Addr} {L : List St} {n : Nat} (h : aL w a L n) (hg : KpM b p q w w') (hne : fO a b p q) : aL w' a L n := by
 rcases h with h | ⟨c, o, rfl, hb, hc⟩
 ·exact .inl h
 ·obtain ⟨n0, n1, n2⟩ := hne _ rfl
  refine .inr ⟨c, o, rfl, Nat.lt_of_lt_of_le hb hg.size, fun i hi => ?_⟩
  obtain ⟨c0, c1, c2, c3⟩ := hc i hi
  exact ⟨hg.cell c0 n0 n1 n2, hg.cell c1 n0 n1 n2, hg.cell c2 n0 n1 n2, hg.cell c3 n0 n1 n2⟩
theorem vp {b p q : Nat} {w w' : World} {a : Option Addr} {L : List D3} {n : Nat} (h : bG w a L n) (hg : KpM b p q w w') (hne : fO a b p q) : bG w' a L n := by
 rcases h with h | ⟨c, o, rfl, hb, hc⟩
 ·exact .inl h
 ·obtain ⟨n0, n1, n2⟩ := hne _ rfl
  refine .inr ⟨c, o, rfl, Nat.lt_of_lt_of_le hb hg.size, fun i hi => ?_⟩
  obtain ⟨c0, c1, c2⟩ := hc i hi
  exact ⟨hg.cell c0 n0 n1 n2, hg.cell c1 n0 n1 n2, hg.cell c2 n0 n1 n2⟩
theorem uc {b p q : Nat} {w w' : World} {a : Option Addr} {A : List Sg} {n : Nat} (h : ce w a A n) (hg : KpM b p q w w') (hne : fO a b p q) : ce w' a A n := by
 rcases h with h | ⟨c, o, rfl, hb, hc⟩
 ·exact .inl h
 ·obtain ⟨n0, n1, n2⟩ := hne _ rfl
  refine .inr ⟨c, o, rfl, Nat.lt_of_lt_of_le hb hg.size, fun i hi => ?_⟩
  obtain ⟨c0, c1, c2, c3, c4, c5, c6⟩ := hc i hi
  exact ⟨hg.cell c0 n0 n1 n2, hg.cell c1 n0 n1 n2, hg.cell c2 n0 n1 n2, hg.cell c3 n0 n1 n2, hg.cell c4 n0 n1 n2, hg.cell c5 n0 n1 n2, hg.cell c6 n0 n1 n2⟩
theorem aX.isMap {w : World} {b n : Nat} {L : List St} {ids : List Int} (h : aX w b n L ids) : ∃ es c, w.heap[b]? = some (.map es c) := by
 obtain ⟨D, ⟨es, c, hh, _⟩, _⟩ := h
 exact ⟨es, c, hh⟩
def JAb (b : Nat) (J : List (List Int) → World → Prop) : Prop := ∀ pre W W', J pre W → (∃ es c, W.heap[b]? = some (.map es c)) → W.grownBy W' (some b) → J pre W'
def uM (L : List St) (S : List D3) (ar br : Option Addr) (cr dr b l p q : Nat) (J : List (List Int) → World → Prop) (r : Nat) : Prop := ∀ (ids : List Int) (pre : List (List Int)) (N n : Nat) (w : World), ids.length + r = S.length → N + 13 ^ r ≤ 100000000 → aX w b N L ids → aL w ar L L.length → bG w br S S.length → p < w.heap.size → q < w.heap.size → J pre w →
  CallsIn Fence.wide n Tryz.prog 165 #[.agg #[.slice ar L.length cr, .slice br S.length dr, .map (some b)], .int .i64 (ids.length : Int), .func (.yield l) #[] #[]] w fun e W' => e = .returned (.bool true) ∧ J (pre ++ cH (eM L S) (L.map (·.1)) r ids) W' ∧ aX W' b (N + (13 ^ r - 1)) L ids ∧ KpM b p q w W'
theorem rY (L : List St) (S : List D3) (ar br : Option Addr) (cr dr b l p q : Nat) (J : List (List Int) → World → Prop) (hm : S.length ≤ 6) (hJ : JAb b J) (hY : jF l p q J) (hbp : b ≠ p) (hbq : b ≠ q) : uM L S ar br cr dr b l p q J 0 := fun ids pre N n w hl hN13 hN hS hD hp hq hj => by
 refine (rM L S ids ar br cr dr b N l p q n (fun pre' W => J pre' W ∧ ∃ es c, W.heap[b]? = some (.map es c)) pre w hm (by omega) hN ⟨hj, hN.isMap⟩ (fun W W' h hB => ?_) (fun m pre' x W h1 hq0 h2 h3 => ?_)).mono fun e W' h => ⟨h.1, h.2.1.1, ?_, h.2.2.toM⟩
 ·obtain ⟨es, c, hh⟩ := h.2
  exact ⟨hJ _ _ _ h.1 h.2 (gh hB), es, c, by rw [hB.block b (Array.getElem?_eq_some_iff.1 hh).1]; exact hh⟩
 ·obtain ⟨fn, tmps, assign, body, hy, hR⟩ := hY m pre' x W h1.1 (hq0.elim fun W0 h => ⟨W0, h.1.1, h.2⟩) h2 h3
  refine ⟨fn, tmps, assign, body, hy, hR.mono fun e W' h => ⟨h.1, ⟨h.2.1, ?_⟩, h.2.2⟩⟩
  obtain ⟨es, c, hh⟩ := h1.2
  exact ⟨es, c, h.2.2.same b _ hh (.inr rfl) hbp hbq⟩
 ·obtain ⟨D, ⟨es, c, hh, rest⟩, hM⟩ := hN
  exact ⟨D, (show W'.ownsMap Tryz.prog 3 kS b N D from ⟨es, c, h.2.2.same b _ hh (.inr rfl) hbp hbq, rest⟩).mono (by omega), hM⟩
attribute [local go_sem] Oper.semAt_some
theorem lf.keptM {b p q : Nat} {w w' : World} {c : Nat} {v0 v1 v2 : Value} (h : lf w c v0 v1 v2) (hg : KpM b p q w w') (n0 : c ≠ b) (n1 : c ≠ p) (n2 : c ≠ q) : lf w' c v0 v1 v2 := ⟨hg.cell h.1 n0 n1 n2, hg.cell h.2.1 n0 n1 n2, hg.cell h.2.2 n0 n1 n2⟩
theorem rf (L : List St) (S : List D3) (ar br : Option Addr) (cr dr b l p q r : Nat) (J : List (List Int) → World → Prop) (hk : be L = true) (hm : S.length ≤ 6) (hJ : JAb b J) (hbp : b ≠ p) (hbq : b ≠ q) (hA : fO ar b p q) (hB : fO br b p q) (ih : uM L S ar br cr dr b l p q J r) : uM L S ar br cr dr b l p q J (r + 1) := fun ids pre N n w hl hN13 hN hS hD hp hq hj => by
 have hn12 : L.length ≤ 12 := (dg hk).1
 have B0 := an w (.cells #[.slice ar L.length cr, .slice br S.length dr, .map (some b)] 211)
 have C0 : lf (w.alloc (.cells #[.slice ar L.length cr, .slice br S.length dr, .map (some b)] 211)) w.heap.size (.slice ar L.length cr) (.slice br S.length dr) (.map (some b)) := by refine ⟨?_, ?_, ?_⟩ <;> simp
 have hbl : b < w.heap.size := by obtain ⟨D, hD, _⟩ := hN; exact hD.lt
 have cA := yz (fun (k : Nat) => (callsIn_wide (n := k)).2 (qL L S ids ids.length ar br L.length cr dr b N _ hm (by omega) (hD.kept B0) (hN.below B0)))
 have HN := yz (hN.below B0)
 have HS := yz (hS.kept B0)
 have HD := yz (hD.kept B0)
 have HJ0 := yz (hJ _ _ _ hj hN.isMap (gh B0))
 have HC := yz C0
 have HB0 := yz B0
 have HIH := yz ih
 have HJA := yz hJ
 have hne : ¬ (ids.length : Int) = (S.length : Int) := by omega
 have e16 : ((ids.length : Int) == (S.length : Int)) = false := by rw [beq_eq_false_iff_ne]; exact hne
 have hsz : (w.alloc (.cells #[.slice ar L.length cr, .slice br S.length dr, .map (some b)] 211)).heap.size = w.heap.size + 1 := by simp
 clear B0 C0 hN hS hD hj ih hJ
 refine callsIn_of_wp Tryz.func165 rfl trivial ?_ rfl
 simp only [Tryz.ntmps165, List.size_toArray, List.length_cons, List.length_nil, Nat.reduceAdd, Nat.reduceSub, Array.replicate_succ, Array.replicate_zero, List.push_toArray, List.append_toArray, List.nil_append, List.cons_append]
 gi_wp2
 refine ⟨trivial, fun h => (by cases h), ?_⟩
 generalize hW : w.alloc (.cells #[.slice ar L.length cr, .slice br S.length dr, .map (some b)] 211) = W at *
 clear hW
 refine (yy cA _).mono ?_
 rintro e w1 ⟨⟨v, rfl, ho⟩, hx⟩
 obtain ⟨av, cv, rfl⟩ := tL ho
 have HSi := yz (gG ho)
 have hcv := pX ho (by decide)
 have hcm := kC ho
 have hm9 : maxLen ≤ 9223372036854775807 := by decide +kernel
 have hna := ec L S ids ids.length
 have HAp : Hid (fO av b p q) := yz (fun y e => by
  rcases ho.2 with ⟨h1, _⟩ | ⟨g, c', cur, e', hb', _⟩
  ·injection h1 with h1; rw [h1] at e; cases e
  ·injection e' with e1; rw [e1] at e; cases e; exact ⟨by show g ≠ b; omega, by show g ≠ p; omega, by show g ≠ q; omega⟩)
 have N1 := yz ((yy HN).below hx)
 have S1 := yz ((yy HS).kept hx)
 have D1 := yz ((yy HD).kept hx)
 have J1 := yz (yy HJA _ _ _ (yy HJ0) (yy HN).isMap (gh hx))
 have C1 := yz ((yy HC).kept hx)
 have HK0 := yz (KpM.of_below (b := b) (p := p) (q := q) (ak (yy HB0) hx))
 have hw1 : w.heap.size + 1 ≤ w1.heap.size := by have := hx.size; omega
 have HFE := yz (tJ L S ids)
 generalize hsa : aq L S ids ids.length = SA at *
 clear ho hx HN HS HD HJ0 HC HB0 cA hsz hsa
 obtain ⟨c0, c1, c2⟩ := yy C1
 gi_wp2
 clear c0 c1 c2
 gi_loopw [27] (fun i wr => ∃ k : Nat, k ≤ L.length ∧ i = .int .i64 k ∧ Hid (J (pre ++ ed (eM L S) (L.map (·.1)) r ids k) wr) ∧ Hid (aX wr b (N + k * 13 ^ r) L ids) ∧ Hid (KpM b p q w1 wr)) (fun i _ => L.length - (intOf i).toNat)
 case atStart => exact ⟨0, Nat.zero_le _, rfl, yz (by rw [pa, List.append_nil]; exact yy J1), yz (by rw [Nat.zero_mul]; exact yy N1), yz ⟨Nat.le_refl _, rfl, rfl, rfl, fun _ _ h _ _ _ _ => h⟩⟩
 case round =>
  clear J1 N1
  obtain ⟨k, hkl, rfl, HJr, HNr, HKr⟩ := hrel
  have Sr := yz (tK (yy S1) (yy HKr) hA)
  have Dr := yz (vp (yy D1) (yy HKr) hB)
  have Cr := yz ((yy C1).keptM (yy HKr) (by omega) (by omega) (by omega))
  have Ar := yz (uc (yy HSi) (yy HKr) (yy HAp))
  have hwr : w.heap.size + 1 ≤ wr.heap.size := Nat.le_trans hw1 (yy HKr).size
  obtain ⟨c0, c1, c2⟩ := yy Cr
  by_cases hkn : k < L.length
  ·obtain ⟨⟨s1, s2, s3, s4⟩, hst⟩ : ∃ z, stA L k = z := ⟨_, rfl⟩
   have hsm1 := pr hk hkn
   have hat := oP hk hkn
   have HMA : Hid ((L.map (·.1)).getD k 0 = s1) := yz (by rw [vK hkn, hst])
   rw [hst] at hsm1 hat
   have HAT := yz hat
   have HS1 := yz hsm1.2
   have hkn2 : (k : Int) < (L.length : Int) := by omega
   rcases yy Sr with h0 | ⟨sb, so, rfl, hsb, hcs⟩
   ·omega
   have hstar := hcs k hkn
   rw [hst] at hstar
   obtain ⟨d0, d1, d2, d3⟩ := hstar
   clear hsm1 hat hst hcs
   rcases yy Dr with h0 | ⟨db, do', rfl, hdb, hcd⟩
   ·omega
   obtain ⟨⟨v1, v2, v3⟩, hv⟩ : ∃ z, vA S ids.length = z := ⟨_, rfl⟩
   have hdir := hcd ids.length (by omega)
   rw [hv] at hdir
   have HV := yz hv
   obtain ⟨g0, g1, g2⟩ := hdir
   dsimp only at d0 d1 d2 d3 g0 g1 g2
   clear hcd hv
   have hpl : (ids.length : Int) < (S.length : Int) := by omega
   have Z2 := an wr (.cells #[.int .i64 s1, .int .i64 s2, .int .i64 s3, .int .i64 s4] 74)
   have E2 := yz (cq wr (s1, s2, s3, s4) 74)
   have HB2 := yz Z2
   have y1 := aU c1 Z2
   have y2 := aU c2 Z2
   have z0 := aU g0 Z2
   have z1 := aU g1 Z2
   have z2 := aU g2 Z2
   clear Z2
   gi_wp2
   clear c0 c1 c2 d0 d1 d2 d3 g0 g1 g2
   generalize hW2 : wr.alloc (.cells #[.int .i64 s1, .int .i64 s2, .int .i64 s3, .int .i64 s4] 74) = W2 at *
   clear hW2
   obtain ⟨e0, e1, e2, e3⟩ := yy E2
   simp only [Nat.zero_add] at e0 e1 e2 e3
   have y1' := fun o => aU y1 (an W2 o)
   have z0' := fun o => aU z0 (an W2 o)
   have z1' := fun o => aU z1 (an W2 o)
   have z2' := fun o => aU z2 (an W2 o)
   have e0' := fun o => aU e0 (an W2 o)
   have e1' := fun o => aU e1 (an W2 o)
   have e2' := fun o => aU e2 (an W2 o)
   have e3' := fun o => aU e3 (an W2 o)
   gi_region
   have Z3 := (an W2 (.cells #[.int .i64 v1, .int .i64 v2, .int .i64 v3, .int .i64 s1, .int .i64 s2, .int .i64 s3, .int .i64 s4] 238))
   have Y3 : Below W2.heap.size W2 (W2.alloc (.cells #[.int .i64 v1, .int .i64 v2, .int .i64 v3, .int .i64 s1, .int .i64 s2, .int .i64 s3, .int .i64 s4] 238)).drew := Z3.drew
   have P3 : Hid (jV (W2.alloc (.cells #[.int .i64 v1, .int .i64 v2, .int .i64 v3, .int .i64 s1, .int .i64 s2, .int .i64 s3, .int .i64 s4] 238)).drew W2.heap.size 0 ((v1, v2, v3), (s1, s2, s3, s4))) := yz (cY W2 ((v1, v2, v3), (s1, s2, s3, s4)) 238)
   have E3 := yz ((yy E2).kept (World.block_lt_of_cell? W2 _ e0) Y3)
   have HB3 := yz (ak (yy HB2) Y3)
   generalize hW3 : (W2.alloc (.cells #[.int .i64 v1, .int .i64 v2, .int .i64 v3, .int .i64 s1, .int .i64 s2, .int .i64 s3, .int .i64 s4] 238)).drew = W3 at *
   clear hW3 Z3 Y3 y1 y2 z0 z1 z2 e0 e1 e2 e3 y1' z0' z1' z2' e0' e1' e2' e3' E2 HB2
   have J3 := yz (yy HJA _ _ _ (yy HJr) (yy HNr).isMap (gh (yy HB3)))
   have N3 := yz ((yy HNr).below (yy HB3))
   have K3 := yz ((yy HKr).trans (KpM.of_below (b := b) (p := p) (q := q) (yy HB3)))
   have A3 := yz ((yy Ar).kept (yy HB3))
   have C3 := yz ((yy Cr).kept (yy HB3))
   have hw3 : w.heap.size + 1 ≤ W3.heap.size := Nat.le_trans hwr (yy HB3).size
   generalize W2.heap.size = nb at *
   obtain ⟨n0, n1, n2, n3, n4, n5, n6⟩ := yy P3
   simp only [Nat.zero_add] at n0 n1 n2 n3 n4 n5 n6
   have cF := yz (fun (j : Nat) => (callsIn_wide (n := j)).2 (fS SA SA.length ((v1, v2, v3), (s1, s2, s3, s4)) av cv W3 (by omega) hcv (by omega) (yy A3)))
   have HFV : Hid (bM SA ((v1, v2, v3), (s1, s2, s3, s4)) SA.length = eM L S ids s1) := yz (by rw [yy HFE s1, yy HV, yy HAT])
   rw [yy HFV] at cF
   unfold sgV at cF
   dsimp only at cF
   gi_wp2
   refine ⟨trivial, fun h => (by cases h), ?_⟩
   refine (yy cF _).mono ?_
   rintro e W4 ⟨rfl, hx⟩
   have J4 := yz (yy HJA _ _ _ (yy J3) (yy N3).isMap (gh hx))
   have N4 := yz ((yy N3).below hx)
   have K4 := yz ((yy K3).trans (KpM.of_below (b := b) (p := p) (q := q) hx))
   have C4 := yz ((yy C3).kept hx)
   have E4 := yz ((yy E3).kept (World.block_lt_of_cell? W3 _ (yy E3).1) hx)
   have hw4 : w.heap.size + 1 ≤ W4.heap.size := Nat.le_trans hw3 hx.size
   clear hx n0 n1 n2 n3 n4 n5 n6 J3 N3 K3 C3 E3 A3 cF P3 HJr HNr HKr Cr Ar Sr Dr HB3
   cases hfit : eM L S ids s1
   ·have HR : Hid (ed (eM L S) (L.map (·.1)) r ids (k + 1) = ed (eM L S) (L.map (·.1)) r ids k) := yz (by rw [km _ _ _ _ (by rw [List.length_map]; exact hkn), yy HMA, hfit]; simp)
    have J5 : Hid (J (pre ++ ed (eM L S) (L.map (·.1)) r ids (k + 1)) W4) := yz (by rw [yy HR]; exact yy J4)
    have N5 : Hid (aX W4 b (N + (k + 1) * 13 ^ r) L ids) := yz (by obtain ⟨D, h1, h2⟩ := yy N4; exact ⟨D, h1.mono (Nat.add_le_add_left (Nat.mul_le_mul_right _ (Nat.le_succ k)) _), h2⟩)
    gi_wp2
    go_roundw
    case rel => first | exact ⟨k + 1, by omega, by go_num, J5, N5, K4⟩ | trace_state
    case measure => simp [intOf]; omega
   ·have HR : Hid (ed (eM L S) (L.map (·.1)) r ids (k + 1) = ed (eM L S) (L.map (·.1)) r ids k ++ cH (eM L S) (L.map (·.1)) r (ids ++ [s1])) := yz (by rw [km _ _ _ _ (by rw [List.length_map]; exact hkn), yy HMA, hfit]; rfl)
    obtain ⟨c0, c1, c2⟩ := yy C4
    obtain ⟨e0, e1, e2, e3⟩ := yy E4
    simp only [Nat.zero_add] at e0 e1 e2 e3
    obtain ⟨D, hown, hM⟩ := yy N4
    have hNb : N + k * 13 ^ r < maxLen := by
     have h1 : k * 13 ^ r ≤ 12 * 13 ^ r := Nat.mul_le_mul_right _ (by omega)
     have h2 : 100000000 ≤ maxLen := by decide +kernel
     rw [Nat.pow_succ] at hN13
     have h3 : 0 < 13 ^ r := Nat.pow_pos (by decide)
     generalize 13 ^ r = c at *
     generalize k * c = kc at *
     omega
    gi_wp2_with (gi_at_mapUpdate; refine wpListIn_mapUpdate_own _ rfl _ _ _ 209 rfl 3 74 (Maps.int_keyed Tryz.underlying3) Tryz.underlying209 kS b (N + k * 13 ^ r) D rfl hown hNb _ _ (.int .i64 (ids.length : Int)) rfl rfl (uH ids.length (by omega)) (jh (s1, s2, s3, s4)) [] (kF (s1, s2, s3, s4)) ?_; intro W5 hown5 hg5; have HU5 := yz hown5; have HG5 := yz hg5; clear hown5 hg5; have C5 := yz ((yy C4).keptM (KpM.of_grown (b := b) (p := p) (q := q) (yy HG5)) (by omega) (by omega) (by omega)); obtain ⟨x0, x1, x2⟩ := yy C5)
    have J5 := yz (yy HJA _ _ _ (yy J4) (yy N4).isMap (yy HG5))
    have K5 := yz ((yy K4).trans (KpM.of_grown (b := b) (p := p) (q := q) (yy HG5)))
    have N5 : Hid (aX W5 b (N + k * 13 ^ r + 1) L (ids ++ [s1])) := yz ⟨_, yy HU5, by
     have h1 := hM.put (a := s1) hown.isMap (yy HS1)
     rw [yy HAT] at h1
     exact h1⟩
    have S5 := yz (tK (yy S1) (yy K5) hA)
    have D5 := yz (vp (yy D1) (yy K5) hB)
    have hw5 : w.heap.size + 1 ≤ W5.heap.size := Nat.le_trans hw4 (yy HG5).size
    have HLN : Hid (((ids ++ [s1]).length : Int) = (ids.length : Int) + 1) := yz (by simp)
    have cI := yz (fun (j : Nat) => yy HIH (ids ++ [s1]) (pre ++ ed (eM L S) (L.map (·.1)) r ids k) (N + k * 13 ^ r + 1) j W5 (by rw [List.length_append, List.length_singleton]; omega) (by
     have h1 : k * 13 ^ r ≤ 11 * 13 ^ r := Nat.mul_le_mul_right _ (by omega)
     rw [Nat.pow_succ] at hN13
     have h3 : 0 < 13 ^ r := Nat.pow_pos (by decide)
     generalize 13 ^ r = c at *
     generalize k * c = kc at *
     omega) (yy N5) (yy S5) (yy D5) (by omega) (by omega) (yy J5))
    rw [yy HLN] at cI
    clear c0 c1 c2 e0 e1 e2 e3 J4 N4 K4 C4 E4 HU5 hown hM HG5 J5 N5 S5 D5
    refine ⟨trivial, fun h => (by cases h), ?_⟩
    refine (yy cI _).mono ?_
    rintro e W6 ⟨rfl, hJ6, hN6, hK6⟩
    have J6 := yz hJ6
    have K6 := yz ((yy K5).trans hK6)
    have C6 := yz ((yy C5).keptM hK6 (by omega) (by omega) (by omega))
    have N6 := yz hN6
    have hw6 : w.heap.size + 1 ≤ W6.heap.size := Nat.le_trans hw5 hK6.size
    clear x0 x1 x2 hJ6 hN6 hK6 K5 C5 cI
    obtain ⟨x0, x1, x2⟩ := yy C6
    obtain ⟨D6, hown6, hM6⟩ := yy N6
    gi_wp2_with (gi_at_delete; refine wpListIn_delete_own _ rfl _ _ 209 3 rfl 74 (Maps.int_keyed Tryz.underlying3) Tryz.underlying209 kS b _ D6 rfl hown6 _ (.int .i64 (ids.length : Int)) rfl (uH ids.length (by omega)) ?_; intro W7 hown7 ht7; have HU7 := yz hown7; have HG7 := yz ht7.grown; clear hown7 ht7)
    have J7 : Hid (J (pre ++ ed (eM L S) (L.map (·.1)) r ids (k + 1)) W7) := yz (by rw [yy HR, ← List.append_assoc]; exact yy HJA _ _ _ (yy J6) (yy N6).isMap (yy HG7))
    have K7 := yz ((yy K6).trans (KpM.of_grown (b := b) (p := p) (q := q) (yy HG7)))
    have N7 : Hid (aX W7 b (N + (k + 1) * 13 ^ r) L ids) := yz ⟨_, (yy HU7).mono (by
     have h3 : 0 < 13 ^ r := Nat.pow_pos (by decide)
     rw [Nat.succ_mul]
     generalize 13 ^ r = c at *
     generalize k * c = kc at *
     omega), hM6.del⟩
    clear x0 x1 x2 J6 K6 C6 N6 hown6 hM6 HU7 HG7
    gi_wp2
    go_roundw
    case rel => first | exact ⟨k + 1, by omega, by go_num, J7, N7, K7⟩ | exact ⟨k + 1, by omega, by go_num, J7, N7⟩ | trace_state
    case measure => simp [intOf]; omega
  ·obtain rfl : k = L.length := by omega
   have HLN : Hid (((ids ++ [(0 : Int)]).length : Int) = (ids.length : Int) + 1) := yz (by simp)
   have N5 : Hid (aX wr b (N + L.length * 13 ^ r) L (ids ++ [0])) := yz (by obtain ⟨D, h1, h2⟩ := yy HNr; exact ⟨D, h1, h2.snoc0⟩)
   have cI := yz (fun (j : Nat) => yy HIH (ids ++ [0]) (pre ++ ed (eM L S) (L.map (·.1)) r ids L.length) (N + L.length * 13 ^ r) j wr (by rw [List.length_append, List.length_singleton]; omega) (by
    have h1 : L.length * 13 ^ r ≤ 12 * 13 ^ r := Nat.mul_le_mul_right _ hn12
    rw [Nat.pow_succ] at hN13
    generalize 13 ^ r = c at *
    generalize L.length * c = kc at *
    omega) (yy N5) (yy Sr) (yy Dr) (by omega) (by omega) (yy HJr))
   rw [yy HLN] at cI
   gi_wp2
   refine ⟨trivial, fun h => (by cases h), ?_⟩
   refine (yy cI _).mono ?_
   rintro e W6 ⟨rfl, hJ6, hN6, hK6⟩
   have J6 := yz hJ6
   have N6 := yz hN6
   have K6 := yz (((yy HK0).trans (yy HKr)).trans hK6)
   clear hJ6 hN6 hK6 cI N5 c0 c1 c2
   gi_wp2
   go_ret
   refine ⟨rfl, ?_, ?_, yy K6⟩
   ·rw [qG, ← List.append_assoc, List.length_map]
    exact yy J6
   ·obtain ⟨D, h1, h2⟩ := yy N6
    refine ⟨D, h1.mono ?_, fun i hi => ?_⟩
    ·have h3 : L.length * 13 ^ r ≤ 12 * 13 ^ r := Nat.mul_le_mul_right _ hn12
     have h4 : 0 < 13 ^ r := Nat.pow_pos (by decide)
     rw [Nat.pow_succ]
     generalize 13 ^ r = c at *
     generalize L.length * c = kc at *
     omega
    ·have h5 := h2 i hi
     unfold bI at h5 ⊢
     rw [jO] at h5
     exact h5
theorem np (L : List St) (S : List D3) (ar br : Option Addr) (cr dr b l p q : Nat) (J : List (List Int) → World → Prop) (hk : be L = true) (hm : S.length ≤ 6) (hJ : JAb b J) (hY : jF l p q J) (hbp : b ≠ p) (hbq : b ≠ q) (hA : fO ar b p q) (hB : fO br b p q) : ∀ r, uM L S ar br cr dr b l p q J r
 | 0 => rY L S ar br cr dr b l p q J hm hJ hY hbp hbq
 | r + 1 => rf L S ar br cr dr b l p q r J hk hm hJ hbp hbq hA hB (np L S ar br cr dr b l p q J hk hm hJ hY hbp hbq hA hB r)
attribute [local go_sem] Oper.semAt_some
theorem mu (w : World) (L : List St) : aX (w.alloc (.map #[] 0)) w.heap.size 0 L [] := ⟨.map [], World.ownsMap_made w _ _ _, fun i hi => ⟨by simp [Maps.has], by unfold bI; simp; rfl⟩⟩
theorem uT (L : List St) (S : List D3) (ar br : Option Addr) (cr dr l p q s1 s2 n : Nat) (J : List (List Int) → World → Prop) (W : World) (hk : be L = true) (hm : S.length ≤ 6) (h1 : W.cell? ⟨s1, 0, none⟩ = some (.slice ar L.length cr)) (h2 : W.cell? ⟨s2, 0, none⟩ = some (.slice br S.length dr)) (hS : aL W ar L L.length) (hD : bG W br S S.length) (hA : ∀ y, ar = some y → y.block < W.heap.size ∧ y.block ≠ p ∧ y.block ≠ q) (hB : ∀ y, br = some y → y.block < W.heap.size ∧ y.block ≠ p ∧ y.block ≠ q) (hp : p < W.heap.size) (hq : q < W.heap.size)
  (hJ : ∀ b, W.heap.size ≤ b → JAb b J) (hJn : ∀ pre W1 W2, J pre W1 → Below W1.heap.size W1 W2 → J pre W2) (hY : jF l p q J) (h0 : J [] W) :
  CallsIn Fence.wide n Tryz.prog 164 #[.func (.yield l) #[] #[], .pointer (some ⟨s1, 0, none⟩), .pointer (some ⟨s2, 0, none⟩)] W fun e W' => (∃ v, e = .returned v) ∧ J (cH (eM L S) (L.map (·.1)) S.length []) W' := by
 have hmm := @run_makeMap Tryz.prog
 refine callsIn_of_wp Tryz.func164 rfl trivial ?_ rfl
 simp only [Tryz.ntmps164, List.size_toArray, List.length_cons, List.length_nil, Nat.reduceAdd, Nat.reduceSub, Array.replicate_succ, Array.replicate_zero, List.push_toArray, List.append_toArray, List.nil_append, List.cons_append]
 gi_wp2
 refine ⟨trivial, fun h => (by cases h), ?_⟩
 have B1 := aH W (.map #[] 0) (.cells #[.slice ar L.length cr, .slice br S.length dr, .map (some W.heap.size)] 211)
 have N1 := (mu W L).below (an _ (.cells #[.slice ar L.length cr, .slice br S.length dr, .map (some W.heap.size)] 211))
 have hz : ((W.alloc (.map #[] 0)).alloc (.cells #[.slice ar L.length cr, .slice br S.length dr, .map (some W.heap.size)] 211)).heap.size = W.heap.size + 2 := by simp
 refine (np L S ar br cr dr W.heap.size l p q J hk hm (hJ _ (Nat.le_refl _)) hY (by omega) (by omega) (fun y e => ⟨by have := (hA y e).1; omega, (hA y e).2⟩) (fun y e => ⟨by have := (hB y e).1; omega, (hB y e).2⟩) S.length [] [] 0 _ _ (by simp) (by have : 13 ^ S.length ≤ 13 ^ 6 := Nat.pow_le_pow_right (by decide) hm; omega) N1 (hS.kept B1) (hD.kept B1) (by omega) (by omega) (hJn _ _ _ h0 B1)).mono ?_
 rintro e W2 ⟨rfl, hJ2, _, _⟩
 have HJ2 := yz hJ2
 clear hJ2 N1 B1
 gi_wp2
 go_end0
 exact ⟨⟨_, rfl⟩, by simpa using yy HJ2⟩
attribute [local go_sem] Oper.semAt_some
structure og (W : World) (p q : Nat) (G : List Int × Nat) : Prop where
 most : ∃ v, W.heap[p]? = some (.cells #[v] 81 (0, 0)) ∧ ((G.1 = [] ∧ v = .slice none 0 0) ∨ ∃ g, v = .slice (some ⟨g, 0, none⟩) G.1.length G.1.length ∧ p ≤ g ∧ g ≠ p ∧ g ≠ q ∧ bt W 2 g (G.1.length * 1) (jX G.1))
 alike : W.heap[q]? = some (.cells #[.int .i64 (wrap64 (G.2 : Int))] 2 (0, 0))
 len : G.1.length ≤ 6
structure GrJ (p q l d : Nat) (rec : Loop) (w0 : World) (pre : List (List Int)) (W : World) : Prop where
 box : og W p q (pre.foldl bO ([], 0))
 rc : W.heap[l]? = some (.loop rec)
 df : W.heap[d]? = some (.deferred (some []))
 bel : Below w0.heap.size w0 W
theorem bj {W W' : World} {k : Nat} {o : Obj} {row : Option Nat} (h : W.heap[k]? = some o) (hg : W.grownBy W' row) (hne : some k ≠ row) : W'.heap[k]? = some o := (hg.block k (Array.getElem?_eq_some_iff.1 h).1 hne).trans h
theorem og.grown {W W' : World} {p q : Nat} {G : List Int × Nat} {row : Option Nat} (h : og W p q G) (hg : W.grownBy W' row) (hne : ∀ k cs t f, W.heap[k]? = some (.cells cs t f) → some k ≠ row) : og W' p q G := by
 obtain ⟨⟨v, h1, h2⟩, h3, h4⟩ := h
 refine ⟨⟨v, bj h1 hg (hne _ _ _ _ h1), ?_⟩, bj h3 hg (hne _ _ _ _ h3), h4⟩
 rcases h2 with h2 | ⟨g, e, n0, n1, n2, cur, hc, hr⟩
 ·exact .inl h2
 ·exact .inr ⟨g, e, n0, n1, n2, cur, bj hc hg (hne _ _ _ _ hc), hr⟩
theorem GrJ.abides {p q l d : Nat} {rec : Loop} {w0 : World} {b : Nat} (hb : w0.heap.size ≤ b) : JAb b (GrJ p q l d rec w0) := fun pre W W' h ⟨es, c, hm⟩ hg =>
 ⟨h.box.grown hg (fun k cs t f hk e => by have := Option.some.inj e; subst this; rw [hm] at hk; cases hk), bj h.rc hg (fun e => by have e2 := Option.some.inj e; have h2 := h.rc; rw [e2, hm] at h2; cases h2), bj h.df hg (fun e => by have e2 := Option.some.inj e; have h2 := h.df; rw [e2, hm] at h2; cases h2), h.bel.trans ⟨hg.os, hg.tape, hg.output, hg.size, fun k hk => hg.block k (Nat.lt_of_lt_of_le hk h.bel.size) (fun e => by have := Option.some.inj e; omega)⟩⟩
theorem GrJ.below {p q l d : Nat} {rec : Loop} {w0 : World} (pre : List (List Int)) (W W' : World) (h : GrJ p q l d rec w0 pre W) (hB : Below W.heap.size W W') : GrJ p q l d rec w0 pre W' := by
 have hg : W.grownBy W' none := ⟨hB.os, hB.tape, hB.output, hB.size, fun k hk _ => hB.block k hk⟩
 exact ⟨h.box.grown hg (fun k cs t f hk e => by cases e), bj h.rc hg (by simp), bj h.df hg (by simp), ak h.bel hB⟩
theorem pJ {P : Program} {n : Nat} {g : Operand} {ps : Array Tmp} {assign body : Code} {Q : Exit → Act → World → Prop} {a : Act} {w : World} {gf : Nat} {lb : Array Value} (hg : a.eval g = .func (.func gf) #[] lb) (eg : ∀ args w, (callFunc gf args).run P w = .ok (.enter gf args) w)
  (hc : ∀ (rec : Loop), rec.state = .ready → rec.pending = none → rec.tmps = a.tmps → rec.params = ps → rec.assign = assign → rec.body = body → CallsIn Fence.wide (n - 1) P gf (#[.func (.yield (w.heap.size + 1)) #[] #[]] ++ lb) ((w.alloc (.deferred (some []))).alloc (.loop rec)) fun e W' => (∃ v, e = .returned v) ∧ W'.heap[w.heap.size + 1]? = some (.loop rec) ∧ Q .normal { a with defers := { target := .collected w.heap.size, args := #[] } :: a.defers } (W'.putObj (w.heap.size + 1) (.loop { rec with state := .exhausted }))) :
  (Code.rangeFunc g ps assign body).wpIn Fence.wide n P Q a w := by
 refine wpIn_rangeFunc fun fn _ => ?_
 refine ⟨w.heap.size + 1, _, _, { target := .fn (.func gf) lb, args := #[.func (.yield (w.heap.size + 1)) #[] #[]] }, ?wa, gf, #[.func (.yield (w.heap.size + 1)) #[] #[]] ++ lb, ?wb, run_enterLoop_outer _ _ _ _ _, ?res, fun _ _ => trivial, ?inv, fun h => (by cases h), ?call⟩
 case res =>
  simp only [resolve, hg]
  simp [go_sem]
  rfl
 case inv =>
  simp [invoke, go_sem, eg]
  rfl
 case call =>
  refine (hc _ rfl rfl rfl rfl rfl rfl).mono ?_
  rintro e W' ⟨⟨v, rfl⟩, hl, hq⟩
  exact ⟨none, _, run_endLoop hl (by simp), hq⟩
end
section
open Go.RowKit Go.Sort
theorem fo (L : List St) (lim mode A B C D coast fr : Int) (ad : Option Addr) (c : Nat) (w : World) (hn : L.length ≤ 1048576) (hS : aL w ad L L.length) :
    Calls Tryz.prog 68 #[.agg #[.slice ad L.length c, .int .i64 lim, .int .i64 mode, .int .i64 A, .int .i64 B, .int .i64 C, .int .i64 D, .int .i64 coast, .int .i64 fr]] w fun e w' => ∃ a cap, e = .returned (.agg #[.slice a L.length cap, .int .i64 lim, .int .i64 mode, .int .i64 A, .int .i64 B, .int .i64 C, .int .i64 D, .int .i64 coast, .int .i64 fr]) ∧ ay w' (w.heap.size + 2) L a cap ∧ Below w.heap.size w w' := by
  have B0 := aH w (.cells #[.slice ad L.length c, .int .i64 lim, .int .i64 mode, .int .i64 A, .int .i64 B, .int .i64 C, .int .i64 D, .int .i64 coast, .int .i64 fr] 45) (.cells #[.slice none 0 0, .int .i64 0, .int .i64 0, .int .i64 0, .int .i64 0, .int .i64 0, .int .i64 0, .int .i64 0, .int .i64 0] 130)
  have S1 := yz (hS.kept B0)
  have S0 := (dJ w (.slice ad L.length c) lim mode A B C D coast fr 45).kept (an _ (.cells #[.slice none 0 0, .int .i64 0, .int .i64 0, .int .i64 0, .int .i64 0, .int .i64 0, .int .i64 0, .int .i64 0, .int .i64 0] 130))
  have R0 := (by simpa using dJ (w.alloc (.cells #[.slice ad L.length c, .int .i64 lim, .int .i64 mode, .int .i64 A, .int .i64 B, .int .i64 C, .int .i64 D, .int .i64 coast, .int .i64 fr] 45)) (.slice none 0 0) 0 0 0 0 0 0 0 0 130 : bN ((w.alloc (.cells #[.slice ad L.length c, .int .i64 lim, .int .i64 mode, .int .i64 A, .int .i64 B, .int .i64 C, .int .i64 D, .int .i64 coast, .int .i64 fr] 45)).alloc (.cells #[.slice none 0 0, .int .i64 0, .int .i64 0, .int .i64 0, .int .i64 0, .int .i64 0, .int .i64 0, .int .i64 0, .int .i64 0] 130)) (w.heap.size + 1) (.slice none 0 0) 0 0 0 0 0 0 0 0)
  have G0 := (by simpa using ea (w.alloc (.cells #[.slice ad L.length c, .int .i64 lim, .int .i64 mode, .int .i64 A, .int .i64 B, .int .i64 C, .int .i64 D, .int .i64 coast, .int .i64 fr] 45)) #[.slice none 0 0, .int .i64 0, .int .i64 0, .int .i64 0, .int .i64 0, .int .i64 0, .int .i64 0, .int .i64 0, .int .i64 0] 130 : dU ((w.alloc (.cells #[.slice ad L.length c, .int .i64 lim, .int .i64 mode, .int .i64 A, .int .i64 B, .int .i64 C, .int .i64 D, .int .i64 coast, .int .i64 fr] 45)).alloc (.cells #[.slice none 0 0, .int .i64 0, .int .i64 0, .int .i64 0, .int .i64 0, .int .i64 0, .int .i64 0, .int .i64 0, .int .i64 0] 130)) (w.heap.size + 1))
  have HB := yz B0
  have HS := yz S0
  have HR := yz R0
  have HG := yz G0
  have hsz : ((w.alloc (.cells #[.slice ad L.length c, .int .i64 lim, .int .i64 mode, .int .i64 A, .int .i64 B, .int .i64 C, .int .i64 D, .int .i64 coast, .int .i64 fr] 45)).alloc (.cells #[.slice none 0 0, .int .i64 0, .int .i64 0, .int .i64 0, .int .i64 0, .int .i64 0, .int .i64 0, .int .i64 0, .int .i64 0] 130)).heap.size = w.heap.size + 2 := by simp
  clear B0 S0 R0 G0 hS
  obtain ⟨i0, hinf, hz0, hz1, hz2⟩ := info_parts rq
  go_enter Tryz.func68, Tryz.ntmps68
  go_wp2_with fail
  generalize (w.alloc (.cells #[.slice ad L.length c, .int .i64 lim, .int .i64 mode, .int .i64 A, .int .i64 B, .int .i64 C, .int .i64 D, .int .i64 coast, .int .i64 fr] 45)).alloc (.cells #[.slice none 0 0, .int .i64 0, .int .i64 0, .int .i64 0, .int .i64 0, .int .i64 0, .int .i64 0, .int .i64 0, .int .i64 0] 130) = W at *
  obtain ⟨s0, s1, s2, s3, s4, s5, s6, s7, s8⟩ := yy HS
  refine wp_region_held_drew (S := (fun w' => w'.cell? ⟨w.heap.size, 0, none⟩ = some (.slice ad L.length c) ∧ w'.cell? ⟨w.heap.size, 1, none⟩ = some (.int .i64 lim) ∧ w'.cell? ⟨w.heap.size, 2, none⟩ = some (.int .i64 mode) ∧ w'.cell? ⟨w.heap.size, 3, none⟩ = some (.int .i64 A) ∧ w'.cell? ⟨w.heap.size, 4, none⟩ = some (.int .i64 B) ∧ w'.cell? ⟨w.heap.size, 5, none⟩ = some (.int .i64 C) ∧ w'.cell? ⟨w.heap.size, 6, none⟩ = some (.int .i64 D) ∧ w'.cell? ⟨w.heap.size, 7, none⟩ = some (.int .i64 coast) ∧ w'.cell? ⟨w.heap.size, 8, none⟩ = some (.int .i64 fr))) (by kernel_rfl) ?_ (fun hHeld => ?_)
  · exact ⟨s0, s1, s2, s3, s4, s5, s6, s7, s8⟩
  refine ac 0 rfl ?_
  try simp only [Act.put, ah, ai, aj]
  refine ac 1 rfl ?_
  try simp only [Act.put, ah, ai, aj]
  refine ac 4 rfl ?_
  try simp only [Act.put, ah, ai, aj]
  refine ac 5 rfl ?_
  try simp only [Act.put, ah, ai, aj]
  refine ac 6 rfl ?_
  try simp only [Act.put, ah, ai, aj]
  refine ac 7 rfl ?_
  try simp only [Act.put, ah, ai, aj]
  refine ac 8 rfl ?_
  try simp only [Act.put, ah, ai, aj]
  refine ac 9 rfl ?_
  try simp only [Act.put, ah, ai, aj]
  refine ac 10 rfl ?_
  try simp only [Act.put, ah, ai, aj]
  refine ac 11 rfl ?_
  try simp only [Act.put, ah, ai, aj]
  refine ac 12 rfl ?_
  try simp only [Act.put, ah, ai, aj]
  refine ac 13 rfl ?_
  try simp only [Act.put, ah, ai, aj]
  have S1d : aL W.drew ad L L.length := (yy S1).kept (Below.refl _ _).drew
  have HBd : Below w.heap.size w W.drew := (yy HB).drew
  have R0d : bN W.drew (w.heap.size + 1) (.slice none 0 0) 0 0 0 0 0 0 0 0 := yy HR
  have G0d : dU W.drew (w.heap.size + 1) := yy HG
  have hszd : W.drew.heap.size = w.heap.size + 2 := hsz
  refine af 2 rfl fun K hK => ?_
  have hnil : W.drew.ownsRow (w.heap.size + 2) 74 4 (.slice none 0 0) 0 [] := World.ownsRow_nil _ _ _ _
  have hcells := ne S1d
  refine (if_pos (by kernel_rfl)).mpr ?_
  simp only [List.getElem_toArray, List.getElem_cons_succ, List.getElem_cons_zero]
  generalize hA : ({ tmps := _, defers := _ } : Act) = aa
  have hf0 : aa.eval (Operand.const (Value.slice none 0 0)) = .slice none 0 0 := by subst hA; simp [go_sem]
  have hf1 : aa.eval (Operand.tmp 4) = .slice ad L.length c := by subst hA; simp [go_sem]
  refine jW W.drew (Operand.const (Value.slice none 0 0)) (Operand.tmp 4) 41 rfl (w.heap.size + 2) 74 i0 (.agg #[.int .i64 0, .int .i64 0, .int .i64 0, .int .i64 0]) 4 32 Tryz.underlying41 hinf hz0 hz1 hz2 rfl (by decide) (.slice none 0 0) 0 [] hf0 hnil ad L.length c (bA L) hf1 (gL L) (oZ S1d) hcells (fun u hu => pw hu) ?d1 ?d2 ?d3 ?_
  case d1 => have : 1048576 ≤ maxLen := by decide +kernel
             omega
  case d2 => omega
  case d3 => omega
  intro v' w1 ho hg
  subst hA
  rw [Nat.zero_add, List.nil_append] at ho
  obtain ⟨a, cap, rfl, hC⟩ := oB ho
  have B1 := yz (oN HBd hg HBd.size (fun g e => by simp [Value.ownBlock] at e))
  have S2 : bN w1 w.heap.size (.slice ad L.length c) lim mode A B C D coast fr := bN.grown (w := W.drew) (yy HS) hg (by simp [Value.ownBlock])
  have R2 := yz (R0d.grown hg (by simp [Value.ownBlock]))
  have G2 := yz (G0d.grown R0d.lt hg (by simp [Value.ownBlock]))
  have C1 := yz hC
  clear ho hg hC s0 s1 s2 s3 s4 s5 s6 s7 s8
  obtain ⟨s0, s1, s2, s3, s4, s5, s6, s7, s8⟩ := S2
  refine hK.out _ _ ?_ (fun hHeld1 => ?_)
  · exact ⟨s0, s1, s2, s3, s4, s5, s6, s7, s8⟩
  clear hK K hHeld hf0 hf1 hcells hnil
  try simp only [Act.put, ah, ai, aj]
  refine ac 3 rfl ?_
  try simp only [Act.put, ah, ai, aj]
  refine ac 14 rfl ?_
  try simp only [Act.put, ah, ai, aj]
  obtain ⟨r0, r1, r2, r3, r4, r5, r6, r7, r8⟩ := yy R2
  have g0 := yy G2 0
  have g1 := yy G2 1
  have g2 := yy G2 2
  have g3 := yy G2 3
  have g4 := yy G2 4
  have g5 := yy G2 5
  have g6 := yy G2 6
  have g7 := yy G2 7
  have g8 := yy G2 8
  refine af 15 rfl fun K hK => ?_
  go_simp
  have S3 : Hid (bN w1 w.heap.size (.slice ad L.length c) lim mode A B C D coast fr) := yz ⟨s0, s1, s2, s3, s4, s5, s6, s7, s8⟩
  clear s0 s1 s2 s3 s4 s5 s6 s7 s8 r0 r1 r2 r3 r4 r5 r6 r7 r8 g0 g1 g2 g3 g4 g5 g6 g7 g8
  refine hK.out _ _ ?_ (fun hHeld2 => ?_)
  · show bN _ w.heap.size (.slice ad L.length c) lim mode A B C D coast fr
    iterate 9 (refine bN.far ?_ (show w.heap.size ≠ w.heap.size + 1 by omega) _ _)
    exact yy S3
  clear hK K hHeld1
  refine wpAnyH_done (by kernel_rfl) ?_ _
  clear hHeld2
  go_wp2_with fail
  refine bodyPost_ret (v := .agg #[.slice a L.length cap, .int .i64 lim, .int .i64 mode, .int .i64 A, .int .i64 B, .int .i64 C, .int .i64 D, .int .i64 coast, .int .i64 fr]) ?_ rfl ⟨a, cap, rfl, ?_, ?_⟩
  · refine oV _ _ (w.heap.size + 1) _ lim mode A B C D coast fr rfl ?_
    exact bH (lim0 := 0) (mode0 := 0) (A0 := 0) (B0 := 0) (C0 := 0) (D0 := 0) (coast0 := 0) (fr0 := 0) (u := .slice none 0 0) (yy R2) _ lim mode A B C D coast fr
  · iterate 9 (refine ay.far ?_ (show w.heap.size + 1 < w.heap.size + 2 by omega) _ _)
    exact yy C1
  · iterate 9 (refine aO ?_ (show w.heap.size ≤ w.heap.size + 1 by omega) _ _)
    exact yy B1
end
end Go.Proofs.YtdchjcadhlkpfaaGreatDoor
