/- Several texts in one: IeE, IeF, IeG, IeH, IeI, IeJ, IeK, IeL, IeN, TurnE. -/
import Derived.Deep.RegionHeld
import Derived.Deep.DeepCutAuto
import Derived.Maps.OwnSet
import Derived.Maps.Views
import Derived.RangeFuncNested
import Derived.RangeFuncBound
import Derived.RangeFuncCalls
import Derived.RangeFuncLeaves
import Derived.Shelf.Abstract
import Derived.Shelf.RegionOpen
import Derived.WalkKit
import Derived.OwnWalkIn
import Derived.TacticsInMore
import Derived.LoopNIn
import Derived.LoopIn
import Derived.Maps.OwnIn
import Derived.BigRegionIn
import Derived.Test.YtgiodlllokdcdaaGreatDoorQFnModeOwn7
import Derived.Test.YtgiodlllokdcdaaGreatDoorQFnModeOwn1
import Derived.Test.YtgiodlllokdcdaaGreatDoorQFnModeOwn6
namespace Go.Proofs.YtgiodlllokdcdaaGreatDoor
set_option linter.unusedVariables false
set_option linter.unusedSimpArgs false
set_option maxRecDepth 100000
set_option maxHeartbeats 8000000
section
open Go.RowKit Go.Sort
theorem pC (L : List St) (S : List D3) (ar br : Option Addr) (cr dr x : Nat) (hk : aT L = true) (hsp : aN S = true) (hdr : S.length ≤ dr) (hd9 : dr ≤ 9223372036854775807) : ∀ r, th L S ar br cr dr x r
 | 0 => fun ids s ir er w hl hsm hm hc he hI hst => by
  by_cases hp : aJ ids + 0 < s.count
  ·exact lH L S ar br cr dr x 0 (bq hsp).1 ids s ir er w hl hc hst hp
  ·exact sl L S ar br cr dr x (bq hsp).1 ids s ir er w hl (by simpa using hm) hc he hI hst hp
 | r + 1 => fun ids s ir er w hl hsm hm hc he hI hst => by
  by_cases hp : aJ ids + (r + 1) < s.count
  ·exact lH L S ar br cr dr x (r + 1) (bq hsp).1 ids s ir er w hl hc hst hp
  ·exact sn L S ar br cr dr x r hk hsp hdr hd9 (pC L S ar br cr dr x hk hsp hdr hd9 r) ids s ir er w hl hsm hm hc he hI hst hp
def idR (L : List St) (S : List D3) : SeN := dx (bV L S) (L.map (·.1)) S.length [] ⟨[], 3, 0⟩
def bC (L : List St) (S : List D3) : List Int := if (idR L S).many = 1 then (idR L S).best else []
def dI (L : List St) (S : List D3) : Int := if (idR L S).many = 1 then ((idR L S).count : Int) else 0
def bk (L : List St) (S : List D3) : Int := if (idR L S).many = 0 then 6 else if 1 < (idR L S).many then 11 else 0
def vg (w' : World) (B : Nat) (ids : List Int) (cnt code : Int) (e : Ending) : Prop := ∃ v, e = .returned (.agg #[v, .int .i64 cnt, .int .i64 code]) ∧ w'.ownsRow B 2 1 v ids.length (eE ids)
def IdO (w : World) (b : Nat) (v : Value) (c k : Int) : Prop := w.cell? ⟨b, 0, none⟩ = some v ∧ w.cell? ⟨b, 1, none⟩ = some (.int .i64 c) ∧ w.cell? ⟨b, 2, none⟩ = some (.int .i64 k)
theorem IdO.grown {w w' : World} {b : Nat} {v : Value} {c k : Int} {row : Option Nat} (h : IdO w b v c k) (hg : w.grownBy w' row) (hne : some b ≠ row) : IdO w' b v c k := ⟨dt h.1 hg hne, dt h.2.1 hg hne, dt h.2.2 hg hne⟩
theorem IdO.kept {w w' : World} {b : Nat} {v : Value} {c k : Int} (h : IdO w b v c k) (hB : Below w.heap.size w w') : IdO w' b v c k := ⟨ba h.1 hB, ba h.2.1 hB, ba h.2.2 hB⟩
theorem fy {w : World} {b : Nat} {v0 : Value} {c0 k0 : Int} (h : IdO w b v0 c0 k0) (v : Value) (c k : Int) : IdO (((w.setCell ⟨b, 0, none⟩ v).setCell ⟨b, 1, none⟩ (.int .i64 c)).setCell ⟨b, 2, none⟩ (.int .i64 k)) b v c k := by
 obtain ⟨h0, h1, h2⟩ := h
 refine ⟨?_, ?_, ?_⟩ <;> simp [go_sem, h0, h1, h2]
theorem oR (T : Array Value) (X : World) (b : Nat) (v : Value) (c k : Int) (hT : T.getD 4 undef = .pointer (some ⟨b, 0, none⟩)) (h : IdO X b v c k) : (results Tryz.f74 T).run Tryz.prog X = .ok (.agg #[v, .int .i64 c, .int .i64 k]) X := by
 obtain ⟨h0, h1, h2⟩ := h
 simp only [Array.getD_eq_getD_getElem?] at hT
 simp [results, Tryz.results74, go_sem, hT, h0, h1, h2]
theorem oQ {w : World} {B b n : Nat} {v : Value} {xs : List Value} (h : w.ownsRow B 2 1 v n xs) (hb : b < B) (o : Nat) (y : Value) : (w.setCell ⟨b, o, none⟩ y).ownsRow B 2 1 v n xs := by
 obtain ⟨h1, h2⟩ := h
 refine ⟨h1, ?_⟩
 rcases h2 with h2 | ⟨g, c', cur, e, hg, hh, r⟩
 ·exact .inl h2
 ·exact .inr ⟨g, c', cur, e, hg, by rw [Below.heap_setCell w ⟨b, o, none⟩ y g (by show g ≠ b; omega)]; exact hh, r⟩
theorem kQ (L : List St) (S : List D3) (ar br : Option Addr) (cr dr : Nat) (w : World) (hk : aT L = true) (hsp : aN S = true) (hdr : S.length ≤ dr) (hd9 : dr ≤ 9223372036854775807) (hS : aH w ar L L.length) (hD : co w br S S.length) (hA : ∀ y, ar = some y → y.block < w.heap.size) (hB : ∀ y, br = some y → y.block < w.heap.size) :
  Calls Tryz.prog 74 #[.slice ar L.length cr, .slice br S.length dr] w fun e w' => vg w' w.heap.size (bC L S) (dI L S) (bk L S) e ∧ Below w.heap.size w w' := by
 have B0 := aM w (.cells #[.slice none 0 0, .int .i64 0, .int .i64 0] 100) (.cells #[.slice ar L.length cr, .slice br S.length dr, .slice none 0 0, .int .i64 3, .int .i64 0] 118)
 have R0 : IdO ((w.alloc (.cells #[.slice none 0 0, .int .i64 0, .int .i64 0] 100)).alloc (.cells #[.slice ar L.length cr, .slice br S.length dr, .slice none 0 0, .int .i64 3, .int .i64 0] 118)) w.heap.size (.slice none 0 0) 0 0 := IdO.kept (w := w.alloc (.cells #[.slice none 0 0, .int .i64 0, .int .i64 0] 100)) (by refine ⟨?_, ?_, ?_⟩ <;> simp) (an _ _)
 have F0 : fe ((w.alloc (.cells #[.slice none 0 0, .int .i64 0, .int .i64 0] 100)).alloc (.cells #[.slice ar L.length cr, .slice br S.length dr, .slice none 0 0, .int .i64 3, .int .i64 0] 118)) w.heap.size := fe.kept (w := w.alloc (.cells #[.slice none 0 0, .int .i64 0, .int .i64 0] 100)) (fun i => by simp) (by simp) (an _ _)
 have St0 : gD ((w.alloc (.cells #[.slice none 0 0, .int .i64 0, .int .i64 0] 100)).alloc (.cells #[.slice ar L.length cr, .slice br S.length dr, .slice none 0 0, .int .i64 3, .int .i64 0] 118)) (w.heap.size + 1) L S ar br cr dr ⟨[], 3, 0⟩ := by
  refine ⟨⟨.slice none 0 0, ?_, World.ownsRow_nil _ _ _ _⟩, ?_, hS.kept B0, hD.kept B0, fun y e => by have := hA y e; omega, fun y e => by have := hB y e; omega⟩
  ·refine ⟨?_, ?_, ?_, ?_, ?_⟩ <;> simp
  ·intro i; simp
 have cM := yz (pC L S ar br cr dr (w.heap.size + 1) hk hsp hdr hd9 S.length [] ⟨[], 3, 0⟩ none 0 _ (by simp) (fun i hi => absurd hi (by simp)) (by have h6 := (bq hsp).1; have : 13 ^ S.length ≤ 13 ^ 6 := Nat.pow_le_pow_right (by decide) h6; simp only; omega) (by decide) (fun _ => rfl) (.inl ⟨rfl, rfl⟩) St0)
 have HB := yz B0
 have HR := yz R0
 have HF := yz F0
 have hsz : ((w.alloc (.cells #[.slice none 0 0, .int .i64 0, .int .i64 0] 100)).alloc (.cells #[.slice ar L.length cr, .slice br S.length dr, .slice none 0 0, .int .i64 3, .int .i64 0] 118)).heap.size = w.heap.size + 2 := by simp
 clear B0 R0 F0 St0 hS hD hA hB
 go_enter Tryz.func74, Tryz.ntmps74
 go_wp2_with fail
 generalize hW : (w.alloc (.cells #[.slice none 0 0, .int .i64 0, .int .i64 0] 100)).alloc (.cells #[.slice ar L.length cr, .slice br S.length dr, .slice none 0 0, .int .i64 3, .int .i64 0] 118) = W at *
 clear hW
 refine (yy cM).mono ?_
 rintro e w1 ⟨⟨ve, rfl⟩, hS1, hG1⟩
 have HI : Hid (dx (bV L S) (L.map (·.1)) S.length [] ⟨[], 3, 0⟩ = idR L S) := yz rfl
 rw [yy HI] at hS1
 have B1 : Hid (Below w.heap.size w w1) := yz ((yy HB).trans ⟨hG1.os, hG1.tape, hG1.output, by have := hG1.size; omega, fun k hk' => hG1.block k (by omega) (fun e => by have := Option.some.inj e; omega)⟩)
 have R1 := yz ((yy HR).grown hG1 (fun e => by have := Option.some.inj e; omega))
 have F1 := yz ((yy HF).grown (by omega) hG1 (fun e => by have := Option.some.inj e; omega))
 obtain ⟨⟨vb, h1, h2⟩, hf, hs, hd, a1, a2⟩ := hS1
 have O1 := yz h2
 obtain ⟨av, cv, rfl⟩ := eM h2
 have H1 := yz h1
 clear hf hs hd a1 a2 h2 hG1 HB HR HF cM
 have hO1 : (idR L S).many = 0 → Hid (bC L S = [] ∧ dI L S = 0 ∧ bk L S = 6) := fun h => yz (by unfold bC dI bk; rw [if_neg (by omega), if_neg (by omega), if_pos h]; exact ⟨rfl, rfl, rfl⟩)
 have hO2 : 1 < (idR L S).many → Hid (bC L S = [] ∧ dI L S = 0 ∧ bk L S = 11) := fun h => yz (by unfold bC dI bk; rw [if_neg (by omega), if_neg (by omega), if_neg (by omega), if_pos h]; exact ⟨rfl, rfl, rfl⟩)
 have hO3 : (idR L S).many = 1 → Hid (bC L S = (idR L S).best ∧ dI L S = ((idR L S).count : Int) ∧ bk L S = 0) := fun h => yz (by unfold bC dI bk; rw [if_pos h, if_pos h, if_neg (by omega), if_neg (by omega)]; exact ⟨rfl, rfl, rfl⟩)
 generalize idR L S = s at *
 obtain ⟨bst, ct, mn⟩ := s
 dsimp only at h1 O1 hO1 hO2 hO3
 obtain ⟨c0, c1, c2, c3, c4⟩ := h1
 obtain ⟨r0, r1, r2⟩ := yy R1
 have f0 := yy F1 0
 have f1 := yy F1 1
 have f2 := yy F1 2
 by_cases m0 : mn = 0
 ·have HO := hO1 m0
  subst m0
  clear hO1 hO2 hO3
  go_wp2_with fail
  clear c0 c1 c2 c3 c4 r0 r1 r2 f0 f1 f2
  refine bodyPost_ret (v := .agg #[.slice none 0 0, .int .i64 0, .int .i64 6]) (oR _ _ w.heap.size _ 0 6 rfl (fy (yy R1) _ _ _)) rfl ⟨?_, ((((yy B1).setCell (Nat.le_refl _) _).setCell (Nat.le_refl _) _).setCell (Nat.le_refl _) _)⟩
  rw [(yy HO).1, (yy HO).2.1, (yy HO).2.2]
  exact ⟨_, rfl, World.ownsRow_nil _ _ _ _⟩
 by_cases m1 : 1 < mn
 ·have HO := hO2 m1
  have m0' : ¬ (mn : Int) = 0 := by omega
  have m1' : (1 : Int) < (mn : Int) := by omega
  clear hO1 hO2 hO3
  go_wp2_with fail
  clear c0 c1 c2 c3 c4 r0 r1 r2 f0 f1 f2
  refine bodyPost_ret (v := .agg #[.slice none 0 0, .int .i64 0, .int .i64 11]) (oR _ _ w.heap.size _ 0 11 rfl (fy (yy R1) _ _ _)) rfl ⟨?_, ((((yy B1).setCell (Nat.le_refl _) _).setCell (Nat.le_refl _) _).setCell (Nat.le_refl _) _)⟩
  rw [(yy HO).1, (yy HO).2.1, (yy HO).2.2]
  exact ⟨_, rfl, World.ownsRow_nil _ _ _ _⟩
 ·obtain rfl : mn = 1 := by omega
  have HO := hO3 rfl
  clear hO1 hO2 hO3 m0 m1
  go_wp2_with fail
  refine wp_region_held_drew (S := (fun w' => w'.cell? ⟨w.heap.size + 1, 2, none⟩ = some (.slice av bst.length cv) ∧ w'.cell? ⟨w.heap.size + 1, 3, none⟩ = some (.int .i64 (ct : Int)))) (by kernel_rfl) ?_ (fun hHeld => ?_)
  ·exact ⟨c2, c3⟩
  refine ab 0 rfl ?_
  try simp only [Act.put, ag, ah, ai]
  refine ab 1 rfl ?_
  try simp only [Act.put, ag, ah, ai]
  refine ab 2 rfl ?_
  try simp only [Act.put, ag, ah, ai]
  refine ab 3 rfl ?_
  try simp only [Act.put, ag, ah, ai]
  refine ab 4 rfl ?_
  try simp only [Act.put, ag, ah, ai]
  refine ab 5 rfl ?_
  try simp only [Act.put, ag, ah, ai]
  refine ab 6 rfl ?_
  try simp only [Act.put, ag, ah, ai]
  refine ab 7 rfl ?_
  try simp only [Act.put, ag, ah, ai]
  refine ab 8 rfl ?_
  try simp only [Act.put, ag, ah, ai]
  have R1d : IdO w1.drew w.heap.size (.slice none 0 0) 0 0 := yy R1
  have F1d : fe w1.drew w.heap.size := yy F1
  have B1d : Below w.heap.size w w1.drew := (yy B1).drew
  have O1d := uD (yy O1) (Below.refl w1.heap.size w1).drew
  have d2 : w1.drew.cell? ⟨w.heap.size + 1, 2, none⟩ = some (.slice av bst.length cv) := c2
  have d3 : w1.drew.cell? ⟨w.heap.size + 1, 3, none⟩ = some (.int .i64 (ct : Int)) := c3
  generalize hV : w1.drew = V at *
  clear hV c0 c1 c2 c3 c4 r0 r1 r2 f0 f1 f2
  obtain ⟨r0, r1, r2⟩ := R1d
  have f0 := F1d 0
  have f1 := F1d 1
  have f2 := F1d 2
  refine ae 9 rfl fun K hK => ?_
  go_simp
  refine hK.out _ _ ?_ (fun hHeld1 => ?_)
  ·refine ⟨?_, ?_⟩
   ·rw [World.cell?_setCell_far _ _ _ _ (by show w.heap.size ≠ w.heap.size + 1; omega), World.cell?_setCell_far _ _ _ _ (by show w.heap.size ≠ w.heap.size + 1; omega), World.cell?_setCell_far _ _ _ _ (by show w.heap.size ≠ w.heap.size + 1; omega)]
    exact d2
   ·rw [World.cell?_setCell_far _ _ _ _ (by show w.heap.size ≠ w.heap.size + 1; omega), World.cell?_setCell_far _ _ _ _ (by show w.heap.size ≠ w.heap.size + 1; omega), World.cell?_setCell_far _ _ _ _ (by show w.heap.size ≠ w.heap.size + 1; omega)]
    exact d3
  clear hK K hHeld
  refine wpAnyH_done (by kernel_rfl) ?_ _
  clear hHeld1
  go_wp2_with fail
  refine bodyPost_ret (v := .agg #[.slice av bst.length cv, .int .i64 (ct : Int), .int .i64 0]) (oR _ _ w.heap.size _ (ct : Int) 0 rfl (fy ⟨r0, r1, r2⟩ _ _ _)) rfl ⟨?_, (((B1d.setCell (Nat.le_refl _) _).setCell (Nat.le_refl _) _).setCell (Nat.le_refl _) _)⟩
  rw [(yy HO).1, (yy HO).2.1, (yy HO).2.2]
  exact ⟨_, rfl, tR (oQ (oQ (oQ O1d (by omega) _ _) (by omega) _ _) (by omega) _ _) (by omega)⟩
end
section
open Go.RowKit Go.Sort
def jV (L : List St) (S : List D3) : Bool := aT L && aN S
def bB (L : List St) (S : List D3) : List Int := if 400 < L.length ∨ 400 < S.length then [] else if jV L S = true then bC L S else []
def eD (L : List St) (S : List D3) : Int := if 400 < L.length ∨ 400 < S.length then 0 else if jV L S = true then dI L S else 0
def dg (L : List St) (S : List D3) : Int := if 400 < L.length ∨ 400 < S.length then 2 else if jV L S = true then bk L S else 1
theorem nz {L : List St} {S : List D3} (h : 400 < L.length ∨ 400 < S.length) : bB L S = [] ∧ eD L S = 0 ∧ dg L S = 2 := by unfold bB eD dg; rw [if_pos h, if_pos h, if_pos h]; exact ⟨rfl, rfl, rfl⟩
theorem lL {L : List St} {S : List D3} (h : ¬ (400 < L.length ∨ 400 < S.length)) (h1 : jV L S = false) : bB L S = [] ∧ eD L S = 0 ∧ dg L S = 1 := by unfold bB eD dg; rw [if_neg h, if_neg h, if_neg h, h1]; exact ⟨rfl, rfl, rfl⟩
theorem im {L : List St} {S : List D3} (h : ¬ (400 < L.length ∨ 400 < S.length)) (h1 : jV L S = true) : bB L S = bC L S ∧ eD L S = dI L S ∧ dg L S = bk L S := by unfold bB eD dg; rw [if_neg h, if_neg h, if_neg h, if_pos h1, if_pos h1, if_pos h1]; exact ⟨rfl, rfl, rfl⟩
def stV (s : St) : Value := .agg #[.int .i64 s.1, .int .i64 s.2.1, .int .i64 s.2.2.1, .int .i64 s.2.2.2]
def kJ (s : St) : DataW Unit := .agg [.lit (.int .i64 s.1), .lit (.int .i64 s.2.1), .lit (.int .i64 s.2.2.1), .lit (.int .i64 s.2.2.2)]
def mx (v : Value) : Option (DataW Unit × List MemPlace) := match v with
 | .agg ⟨[.int .i64 a, .int .i64 b, .int .i64 c, .int .i64 d]⟩ => some (kJ (a, b, c, d), [])
 | _ => none
theorem my (s : St) : mx (stV s) = some (kJ s, []) := rfl
theorem nN {v : Value} {s : St} {ps : List MemPlace} (h : mx v = some (kJ s, ps)) : v = stV s := by
 unfold mx at h
 split at h
 ·simp only [Option.some.injEq, Prod.mk.injEq, kJ, DataW.agg.injEq, List.cons.injEq, DataW.lit.injEq, Lit.int.injEq, true_and, and_true] at h
  obtain ⟨⟨h1, h2, h3, h4⟩, _⟩ := h
  subst h1 h2 h3 h4
  rfl
 ·cases h
def mF : St := (0, 0, 0, 0)
def dB (L : List St) (ids : List Int) (i : Nat) : St := if ids.getD i 0 ≠ 0 then (ids.getD i 0, atV L L.length (ids.getD i 0)) else mF
def iI (D : DataW Unit) (L : List St) (ids : List Int) : Prop := ∀ i : Nat, i < 7 → Maps.has D (.int .i64 (i : Int)) = decide (ids.getD i 0 ≠ 0) ∧ D.atKey (.int .i64 (i : Int)) (kJ mF) = kJ (dB L ids i)
def bm (w : World) (b n : Nat) (L : List St) (ids : List Int) : Prop := ∃ D, w.ownsMap Tryz.prog 3 mx b n D ∧ iI D L ids
theorem vH (i : Nat) (h : i < 7) : (Lit.int .i64 (i : Int)).wf = true := by
 rcases (by omega : i = 0 ∨ i = 1 ∨ i = 2 ∨ i = 3 ∨ i = 4 ∨ i = 5 ∨ i = 6) with rfl | rfl | rfl | rfl | rfl | rfl | rfl <;> decide
theorem uA (i : Nat) (h : i < 7) : keyOf Tryz.prog 3 (.int .i64 (i : Int)) = some (.int .i64 (i : Int)) := Maps.keyOf_int_mk Tryz.underlying3 (vH i h)
theorem qr (w : World) : (zeroValue 80).run Tryz.prog w = .ok (stV mF) w := by kernel_rfl
theorem bm.look {w : World} {b n : Nat} {L : List St} {ids : List Int} (h : bm w b n L ids) (i : Nat) (hi : i < 7) : (Instr.lookup 161 (.map (some b)) (.int .i64 (i : Int)) false).run Tryz.prog w = .ok (stV (dB L ids i)) w := by
 obtain ⟨D, hD, hM⟩ := h
 obtain ⟨v, ps, hr, hv⟩ := hD.lookup (Maps.int_keyed Tryz.underlying3) Tryz.underlying161 (qr w) (my mF) (uA i hi)
 rw [(hM i hi).2] at hv
 rw [nN hv] at hr
 exact hr
theorem bm.lookOk {w : World} {b n : Nat} {L : List St} {ids : List Int} (h : bm w b n L ids) (i : Nat) (hi : i < 7) : (Instr.lookup 161 (.map (some b)) (.int .i64 (i : Int)) true).run Tryz.prog w = .ok (.tuple #[stV (dB L ids i), .bool (decide (ids.getD i 0 ≠ 0))]) w := by
 obtain ⟨D, hD, hM⟩ := h
 obtain ⟨v, ps, hr, hv⟩ := hD.look_ok (Maps.int_keyed Tryz.underlying3) Tryz.underlying161 (qr w) (my mF) (uA i hi)
 rw [(hM i hi).2] at hv
 rw [nN hv, (hM i hi).1] at hr
 exact hr
theorem bm.kept {w w' : World} {b n : Nat} {L : List St} {ids : List Int} {row : Option Nat} (h : bm w b n L ids) (hg : w.grownBy w' row) (hne : some b ≠ row) : bm w' b n L ids := by
 obtain ⟨D, hD, hM⟩ := h
 exact ⟨D, hD.kept hg hne, hM⟩
theorem uC (L : List St) (ids : List Int) (i : Nat) : (dB L ids i).1 = ids.getD i 0 := by
 unfold dB
 split
 ·rfl
 ·rename_i h
  have h0 : ids.getD i 0 = 0 := by simpa using h
  rw [h0]
  rfl
theorem bm.below {w w' : World} {b n : Nat} {L : List St} {ids : List Int} (h : bm w b n L ids) (hB : Below w.heap.size w w') : bm w' b n L ids := h.kept (row := none) ⟨hB.os, hB.tape, hB.output, hB.size, fun k hk _ => hB.block k hk⟩ (by simp)
def lj (w : World) (b : Nat) (v0 v1 v2 : Value) : Prop := w.cell? ⟨b, 0, none⟩ = some v0 ∧ w.cell? ⟨b, 1, none⟩ = some v1 ∧ w.cell? ⟨b, 2, none⟩ = some v2
theorem lj.kept {w w' : World} {b : Nat} {v0 v1 v2 : Value} (h : lj w b v0 v1 v2) (hB : Below w.heap.size w w') : lj w' b v0 v1 v2 := ⟨ba h.1 hB, ba h.2.1 hB, ba h.2.2 hB⟩
theorem uy (L : List St) (ids : List Int) (m : Nat) (ar br : Option Addr) (nl cr dr b N : Nat) (w : World) (hm : m ≤ 6) (hN : bm w b N L ids) :
  Calls Tryz.prog 128 #[.agg #[.slice ar nl cr, .slice br m dr, .map (some b)]] w fun e w' => e = .returned (.slice (some ⟨w.heap.size + 1, 0, none⟩) m m) ∧ dv w' 2 (w.heap.size + 1) (m * 1) (lZ ids) ∧ Below w.heap.size w w' := by
 have B0 := an w (.cells #[.slice ar nl cr, .slice br m dr, .map (some b)] 163)
 have C0 : lj (w.alloc (.cells #[.slice ar nl cr, .slice br m dr, .map (some b)] 163)) w.heap.size (.slice ar nl cr) (.slice br m dr) (.map (some b)) := by refine ⟨?_, ?_, ?_⟩ <;> simp
 have HN := yz (hN.below B0)
 have HC := yz C0
 have HB := yz B0
 have hsz : (w.alloc (.cells #[.slice ar nl cr, .slice br m dr, .map (some b)] 163)).heap.size = w.heap.size + 1 := by simp
 clear B0 C0 hN
 obtain ⟨i0, hi, hz0, hz1, hz2⟩ := info_parts gN
 go_enter Tryz.func128, Tryz.ntmps128
 go_wp2_with (at_make; refine wpList_make_full _ rfl _ _ 44 rfl (w.heap.size + 1) 2 i0 (.int .i64 0) 1 Tryz.underlying44 hi hz0 hz1 .i64 .i64 _ _ m rfl rfl rfl rfl (by rw [hz2]; omega) (by unfold maxLen; omega) (by simp) ?_; intro w0 hown0 hgrow0)
 have hzero : ∀ j, j < m * 1 → (madeCells (Value.int .i64 0).cells (m * 1)).toList[j]? = some (.int .i64 0) := by
  intro j hj
  have e : (Value.int .i64 0).cells = #[.int .i64 0] := rfl
  rw [e, toList_madeCells_one]
  simp at hj
  simp [hj]
 have H0 : Hid (dv w0 2 (w.heap.size + 1) (m * 1) (fun j => if j < 0 then lZ ids j else .int .i64 0)) := yz (by
  have h := dv.made (v := .nilIface) hown0 hzero
  rw [hsz] at h
  exact h.congr (fun j hj => by rw [if_neg (by omega)]))
 have hb0 := ge hgrow0
 have HB0 := yz (aj (yy HB) hb0)
 have HN0 := yz ((yy HN).below hb0)
 have HC0 := yz ((yy HC).kept hb0)
 clear hown0 hgrow0 hzero hb0 HB HN HC hsz
 go_loopw [11] (fun i wr => ∃ k : Nat, k ≤ m ∧ i = .int .i64 k ∧ Hid (dv wr 2 (w.heap.size + 1) (m * 1) (fun j => if j < k then lZ ids j else .int .i64 0)) ∧ Hid (Below w.heap.size w wr) ∧ Hid (bm wr b N L ids) ∧ Hid (lj wr w.heap.size (.slice ar nl cr) (.slice br m dr) (.map (some b)))) (fun i _ => m - (intOf i).toNat)
 case atStart => exact ⟨0, by omega, rfl, H0, HB0, HN0, HC0⟩
 case round =>
  clear H0 HB0 HN0 HC0
  obtain ⟨k, hk, rfl, HO, HB, HN, HC⟩ := hrel
  by_cases hkn : k < m
  ·have hr := (yy HN).look k (by omega)
   have HID : Hid (lZ ids k = .int .i64 (dB L ids k).1) := yz (by rw [uC]; rfl)
   generalize dB L ids k = q at *
   obtain ⟨q1, q2, q3, q4⟩ := q
   unfold stV at hr
   dsimp only at hr HID
   have hkn2 : (k : Int) < (m : Int) := by omega
   have hfld : ∀ W : World, (Instr.field 80 (.agg #[.int .i64 q1, .int .i64 q2, .int .i64 q3, .int .i64 q4]) 0).run Tryz.prog W = .ok (.int .i64 q1) W := fun W => by kernel_rfl
   have e0 := (yy HO).cell (j := k) (by omega)
   have f0 := (yy HO).free k
   rw [if_neg (by omega)] at e0
   have hbN : b ≠ w.heap.size + 1 := fun e => by
    obtain ⟨D, ⟨es, cl, hh, _⟩, _⟩ := yy HN
    obtain ⟨cur, hc, _⟩ := yy HO
    rw [e, hc] at hh
    cases hh
   have HO3 : Hid (dv (wr.setCell ⟨w.heap.size + 1, k, none⟩ (.int .i64 q1)) 2 (w.heap.size + 1) (m * 1) (fun j => if j < k + 1 then lZ ids j else .int .i64 0)) := yz (((yy HO).set k (.int .i64 q1)).congr (fun j hj => by
    by_cases h : j = k
    ·rw [if_pos h, if_pos (by omega), h, yy HID]
    ·rw [if_neg h]
     by_cases h2 : j < k
     ·rw [if_pos h2, if_pos (by omega)]
     ·rw [if_neg h2, if_neg (by omega)]))
   have HB3 := yz ((yy HB).setCell (show w.heap.size ≤ w.heap.size + 1 by omega) (.int .i64 q1) : Below w.heap.size w (wr.setCell ⟨w.heap.size + 1, k, none⟩ (.int .i64 q1)))
   have HN3 : Hid (bm (wr.setCell ⟨w.heap.size + 1, k, none⟩ (.int .i64 q1)) b N L ids) := yz ((yy HN).kept (row := some (w.heap.size + 1)) (gM (fc wr _) k (.int .i64 q1)) (fun e => hbN (Option.some.inj e)))
   obtain ⟨c0, c1, c2⟩ := yy HC
   have HC3 : Hid (lj (wr.setCell ⟨w.heap.size + 1, k, none⟩ (.int .i64 q1)) w.heap.size (.slice ar nl cr) (.slice br m dr) (.map (some b))) := yz (by
    have hne : some w.heap.size ≠ some (w.heap.size + 1) := fun e => by have := Option.some.inj e; omega
    exact ⟨dt c0 (gM (fc wr _) k (.int .i64 q1)) hne, dt c1 (gM (fc wr _) k (.int .i64 q1)) hne, dt c2 (gM (fc wr _) k (.int .i64 q1)) hne⟩)
   clear HO HB HN HC hbN
   go_wp2_with fail
   go_roundw
   case rel => first | exact ⟨k + 1, by omega, by go_num, HO3, HB3, HN3, HC3⟩ | trace_state
   case measure => simp [intOf]; omega
  ·have hkn' : k = m := by omega
   subst hkn'
   go_wp2_with fail
   go_ret
   exact ⟨rfl, (yy HO).congr (fun j hj => if_pos (by omega)), yy HB⟩
end
section
open Go.RowKit Go.Sort
theorem rT (L : List St) (S : List D3) (ids : List Int) (n : Nat) (ar br : Option Addr) (nl cr dr b N : Nat) (w : World) (hm : S.length ≤ 6) (hn : n ≤ S.length) (hD : co w br S S.length) (hN : bm w b N L ids) :
  Calls Tryz.prog 129 #[.agg #[.slice ar nl cr, .slice br S.length dr, .map (some b)], .int .i64 (n : Int)] w fun e w' => (∃ v, e = .returned v ∧ w'.ownsRow (w.heap.size + 1) 166 7 v (au L S ids n).length (bK (au L S ids n))) ∧ Below w.heap.size w w' := by
 obtain ⟨i0, hinf, hz0, hz1, hz2⟩ := info_parts lM
 have hm8 : 1000 ≤ maxLen := by decide +kernel
 have B0 := an w (.cells #[.slice ar nl cr, .slice br S.length dr, .map (some b)] 163)
 have C0 : lj (w.alloc (.cells #[.slice ar nl cr, .slice br S.length dr, .map (some b)] 163)) w.heap.size (.slice ar nl cr) (.slice br S.length dr) (.map (some b)) := by refine ⟨?_, ?_, ?_⟩ <;> simp
 have HSn := yz (ef L S ids)
 have HLE := yz (fl L S ids)
 have HSO : Hid (∀ i, bn L S ids i = (vA S i, (ids.getD i 0, atV L L.length (ids.getD i 0)))) := yz (fun i => rfl)
 have HNS : Hid (∀ i, ids.getD i 0 ≠ 0 → dB L ids i = (ids.getD i 0, atV L L.length (ids.getD i 0))) := yz (fun i h => by unfold dB; rw [if_pos h])
 have HNZ : Hid (∀ i, ids.getD i 0 = 0 → dB L ids i = (0, 0, 0, 0)) := yz (fun i h => by unfold dB; rw [if_neg (by simpa using h)]; rfl)
 have HD := yz (hD.kept B0)
 have HN0 := yz (hN.below B0)
 have HC0 := yz C0
 have HB0 := yz B0
 have hsz : (w.alloc (.cells #[.slice ar nl cr, .slice br S.length dr, .map (some b)] 163)).heap.size = w.heap.size + 1 := by simp
 clear B0 C0 hD hN
 generalize hme : S.length = m at *
 go_enter Tryz.func129, Tryz.ntmps129
 go_wp2_with fail
 generalize hW : w.alloc (.cells #[.slice ar nl cr, .slice br m dr, .map (some b)] 163) = W at *
 clear hW
 go_loopw [5, 10] (fun v kk wr => ∃ i : Nat, i ≤ n ∧ kk = .int .i64 i ∧ Hid (wr.ownsRow (w.heap.size + 1) 166 7 v (au L S ids i).length (bK (au L S ids i))) ∧ Hid (Below W.heap.size W wr)) (fun _ kk _ => n - (intOf kk).toNat)
 case atStart => exact ⟨0, by omega, rfl, yz (World.ownsRow_nil _ _ _ _), yz (Below.refl _ _)⟩
 case round =>
  obtain ⟨i, hi, rfl, HO, HB⟩ := hrel
  by_cases hin : i < n
  ·have hin2 : (i : Int) < (n : Int) := by omega
   have hr := ((yy HN0).below (yy HB)).lookOk i (by omega)
   obtain ⟨c0, c1, c2⟩ := (yy HC0).kept (yy HB)
   have HSN := yz (yy HSn i)
   have HSI := yz (yy HSO i)
   have hns := yy HNS i
   have hnz := yy HNZ i
   have hle := yy HLE i
   generalize ids.getD i 0 = id at *
   by_cases hid : id = 0
   ·subst hid
    rw [hnz rfl] at hr
    unfold stV at hr
    simp only [ne_eq, not_true_eq_false, decide_false] at hr
    rw [if_neg (by simp), List.append_nil] at HSN
    have Z := an wr (.cells #[.int .i64 0, .int .i64 0, .int .i64 0, .int .i64 0] 80)
    have HO3 : Hid ((wr.alloc (.cells #[.int .i64 0, .int .i64 0, .int .i64 0, .int .i64 0] 80)).ownsRow (w.heap.size + 1) 166 7 u5 (au L S ids (i + 1)).length (bK (au L S ids (i + 1)))) := yz (by rw [yy HSN]; exact fD (yy HO) Z)
    have HB3 := yz (aj (yy HB) Z)
    clear Z HO HB hns hnz
    go_wp2_with fail
    go_roundw
    case rel => first | exact ⟨i + 1, by omega, by go_num, HO3, HB3⟩ | trace_state
    case measure => simp [intOf] <;> omega
   ·have hid' : decide (id ≠ 0) = true := by simp [hid]
    rw [hns hid, hid'] at hr
    rw [if_pos hid, yy HSI] at HSN
    clear HSI hns hnz
    generalize atV L L.length id = q at *
    obtain ⟨q1, q2, q3⟩ := q
    unfold stV at hr
    dsimp only at hr
    have HU : Hid (∀ z, u5.ownBlock = some z → w.heap.size + 1 ≤ z ∧ z < wr.heap.size) := yz (fun z e => (yy HO).lt z e)
    have Z := an wr (.cells #[.int .i64 id, .int .i64 q1, .int .i64 q2, .int .i64 q3] 80)
    have HO2 := yz (fD (yy HO) Z)
    have HB2 := yz (aj (yy HB) Z)
    have N2 := yz (eH wr (id, q1, q2, q3) 80)
    clear Z HO HB
    go_wp2_with fail
    clear c0 c1 c2 hr
    generalize wr.alloc (.cells #[.int .i64 id, .int .i64 q1, .int .i64 q2, .int .i64 q3] 80) = W2 at HO2 HB2 N2 ⊢
    generalize wr.heap.size = tb at *
    rcases yy HD with h | ⟨bb, bo, rfl, hbb, hbc⟩
    ·omega
    have hst := (hbc i (by omega)).kept hbb (yy HB2)
    obtain ⟨_, x1, _⟩ := (yy HC0).kept (yy HB2)
    clear hbc
    generalize vA S i = sv at *
    obtain ⟨v1, v2, v3⟩ := sv
    obtain ⟨c0, c1, c2⟩ := hst
    obtain ⟨d0, d1, d2, d3⟩ := yy N2
    simp only [Nat.zero_add] at d0 d1 d2 d3
    simp only at c0 c1 c2
    have him : (i : Int) < (m : Int) := by omega
    refine wp_region_held_drew (S := (fun w' => w'.cell? ⟨w.heap.size, 1, none⟩ = some (.slice (some ⟨bb, bo, none⟩) m dr) ∧ (w'.cell? ⟨bb, bo + i * 3, none⟩ = some (.int .i64 v1) ∧ w'.cell? ⟨bb, bo + i * 3 + 1, none⟩ = some (.int .i64 v2) ∧ w'.cell? ⟨bb, bo + i * 3 + 2, none⟩ = some (.int .i64 v3)) ∧ w'.cell? ⟨tb, 0, none⟩ = some (.int .i64 id) ∧ w'.cell? ⟨tb, 1, none⟩ = some (.int .i64 q1) ∧ w'.cell? ⟨tb, 2, none⟩ = some (.int .i64 q2) ∧ w'.cell? ⟨tb, 3, none⟩ = some (.int .i64 q3))) (by kernel_rfl) ?_ (fun hHeld => ?_)
    ·exact ⟨x1, ⟨c0, c1, c2⟩, d0, d1, d2, d3⟩
    refine ab 0 rfl ?_
    try simp only [Act.put, ag, ah, ai]
    refine ab 1 rfl ?_
    try simp only [Act.put, ag, ah, ai]
    refine ab 2 rfl ?_
    try simp only [Act.put, ag, ah, ai]
    refine ab 3 rfl ?_
    try simp only [Act.put, ag, ah, ai]
    refine ab 4 rfl ?_
    try simp only [Act.put, ag, ah, ai]
    refine ab 5 rfl ?_
    try simp only [Act.put, ag, ah, ai]
    refine ab 6 rfl ?_
    try simp only [Act.put, ag, ah, ai]
    refine ab 7 rfl ?_
    try simp only [Act.put, ag, ah, ai]
    have HK : Hid (∀ W' : World, Below W2.heap.size W2 W' → (W'.cell? ⟨w.heap.size, 1, none⟩ = some (.slice (some ⟨bb, bo, none⟩) m dr) ∧ (W'.cell? ⟨bb, bo + i * 3, none⟩ = some (.int .i64 v1) ∧ W'.cell? ⟨bb, bo + i * 3 + 1, none⟩ = some (.int .i64 v2) ∧ W'.cell? ⟨bb, bo + i * 3 + 2, none⟩ = some (.int .i64 v3)) ∧ W'.cell? ⟨tb, 0, none⟩ = some (.int .i64 id) ∧ W'.cell? ⟨tb, 1, none⟩ = some (.int .i64 q1) ∧ W'.cell? ⟨tb, 2, none⟩ = some (.int .i64 q2) ∧ W'.cell? ⟨tb, 3, none⟩ = some (.int .i64 q3))) := yz (fun W' h => ⟨ba x1 h, ⟨ba c0 h, ba c1 h, ba c2 h⟩, ba d0 h, ba d1 h, ba d2 h, ba d3 h⟩)
    have HOd : Hid (W2.drew.ownsRow (w.heap.size + 1) 166 7 u5 (au L S ids i).length (bK (au L S ids i))) := HO2
    have HBd := yz ((Below.refl W2.heap.size W2).drew)
    clear c0 c1 c2 d0 d1 d2 d3 x1 N2
    refine ae 8 rfl fun K hK => ?_
    go_simp
    have Z5 := an W2.drew (.cells #[.int .i64 v1, .int .i64 v2, .int .i64 v3, .int .i64 id, .int .i64 q1, .int .i64 q2, .int .i64 q3] 166)
    have hown := fD (yy HOd) Z5
    have HB5 := yz (aj (yy HBd) Z5)
    have hszd : W2.drew.heap.size = W2.heap.size := rfl
    have hbW : W.heap.size ≤ W2.heap.size := (yy HB2).size
    clear Z5 HOd HBd
    refine hK.out _ _ (yy HK _ (yy HB5)) (fun hHeld3 => ?_)
    clear hK K hHeld
    refine ae 9 rfl fun K hK => ?_
    refine jK rfl _ _ 144 rfl (w.heap.size + 1) 166 i0 (.agg #[.int .i64 0, .int .i64 0, .int .i64 0, .int .i64 0, .int .i64 0, .int .i64 0, .int .i64 0]) 7 56 Tryz.underlying144 hinf hz0 hz1 hz2 rfl (by decide) _ _ _ rfl hown ⟨W2.drew.heap.size, 0, none⟩ 1 1 (bK [((v1, v2, v3), (id, q1, q2, q3))]) rfl rfl ?d2 (fun u hu => ku hu) ?d3 ?d4 ?d5 ?_
    case d2 => first | exact fun j u h => h | exact fP _ _ _
    case d3 => omega
    case d4 => omega
    case d5 => first | omega | (simp; omega)
    intro v7 V7 hown7 hgrow7
    have neb : ∀ z, z < w.heap.size + 1 ∨ tb ≤ z → some z ≠ u5.ownBlock := fun z hz e => by have := yy HU z e.symm; omega
    have HB8 : Hid (Below W.heap.size W V7) := yz ((aj (yy HB2) (yy HB5)).trans ⟨hgrow7.os, hgrow7.tape, hgrow7.output, hgrow7.size, fun z hz => hgrow7.block z (by simp; omega) (neb z (.inl (by omega)))⟩)
    have HO8 : Hid (V7.ownsRow (w.heap.size + 1) 166 7 v7 (au L S ids (i + 1)).length (bK (au L S ids (i + 1)))) := yz (by rw [yy HSN, lA, List.length_append]; exact hown7)
    obtain ⟨k1, ⟨k2, k3, k4⟩, k5, k6, k7, k8⟩ := yy HK _ (yy HB5)
    have hbb2 : bb < w.heap.size + 1 := by omega
    have k1' := bD k1 hgrow7 (neb _ (.inl (show w.heap.size < w.heap.size + 1 by omega)))
    have k2' := bD k2 hgrow7 (neb _ (.inl hbb2))
    have k3' := bD k3 hgrow7 (neb _ (.inl hbb2))
    have k4' := bD k4 hgrow7 (neb _ (.inl hbb2))
    have k5' := bD k5 hgrow7 (neb _ (.inr (Nat.le_refl _)))
    have k6' := bD k6 hgrow7 (neb _ (.inr (Nat.le_refl _)))
    have k7' := bD k7 hgrow7 (neb _ (.inr (Nat.le_refl _)))
    have k8' := bD k8 hgrow7 (neb _ (.inr (Nat.le_refl _)))
    clear hown7 hgrow7 hown k1 k2 k3 k4 k5 k6 k7 k8 neb HB5 HB2 HO2
    refine hK.out _ _ ⟨k1', ⟨k2', k3', k4'⟩, k5', k6', k7', k8'⟩ (fun hHeld4 => ?_)
    clear hK K hHeld3
    refine ae 10 rfl fun K hK => ?_
    go_simp
    refine hK.out _ _ ⟨k1', ⟨k2', k3', k4'⟩, k5', k6', k7', k8'⟩ (fun hHeld5 => ?_)
    clear hK K hHeld4
    refine wpAnyH_done (by kernel_rfl) ?_ _
    clear k1' k2' k3' k4' k5' k6' k7' k8' hHeld5 HK
    go_wp2_with fail
    go_roundw
    case rel => first | exact ⟨i + 1, by omega, by go_num, HO8, HB8⟩ | trace_state
    case measure => simp [intOf] <;> omega
  ·have hin' : i = n := by omega
   subst hin'
   go_wp2_with fail
   go_ret
   exact ⟨⟨_, rfl, yy HO⟩, aj (yy HB0) (yy HB)⟩
end
section
open Go.RowKit Go.Sort
theorem ie (ids : List Int) {i : Nat} (hi : i < ids.length) : aJ (ids.take (i + 1)) = aJ (ids.take i) + if ids.getD i 0 ≠ 0 then 1 else 0 := by
 rw [List.take_succ_eq_append_getElem hi, fN]
 have e : ids.getD i 0 = ids[i] := by rw [List.getD_eq_getElem?_getD, List.getElem?_eq_getElem hi]; rfl
 rw [e]
theorem ek (ids : List Int) (a : Option Addr) (c : Nat) (w : World) (hk : ids.length ≤ 1048576) (hI : eP w a ids ids.length) :
  Calls Tryz.prog 94 #[.slice a ids.length c] w fun e w' => e = .returned (.int .i64 (aJ ids : Int)) ∧ w' = w := by
 have HT : Hid (aJ (ids.take ids.length) = aJ ids) := yz (by rw [List.take_length])
 rcases hI with h0 | ⟨b, o, rfl, hb, hc⟩
 ·have e : ids = [] := List.eq_nil_of_length_eq_zero h0
  subst e
  go_enter Tryz.func94, Tryz.ntmps94
  go_wp2_with fail
  refine wp_loop_rounds 1 ?_
  rw [rounds_succ]
  go_wp2_with fail
  go_ret
  exact ⟨rfl, rfl⟩
 have HC := yz hc
 clear hc
 go_enter Tryz.func94, Tryz.ntmps94
 go_wp2_with fail
 go_loop [3, 8] (fun q i => ∃ k : Nat, k ≤ ids.length ∧ i = .int .i64 k ∧ q = .int .i64 (aJ (ids.take k) : Int)) (fun _ i => ids.length - (intOf i).toNat)
 case atStart => exact ⟨0, Nat.zero_le _, rfl, rfl⟩
 case round =>
  obtain ⟨k, hkl, rfl, rfl⟩ := hrel
  by_cases hkn : k < ids.length
  ·have c0 := yy HC k hkn
   have HS := yz (ie ids hkn)
   have hle := eU (ids.take k)
   rw [List.length_take] at hle
   have hle2 : (aJ (ids.take k) : Int) ≤ 1048576 := by omega
   have hkn2 : (k : Int) < (ids.length : Int) := by omega
   generalize ids.getD k 0 = z at *
   by_cases hz : z = 0
   ·have HS2 : Hid (aJ (ids.take (k + 1)) = aJ (ids.take k)) := yz (by rw [yy HS, if_neg (by simpa using hz)]; rfl)
    subst hz
    go_wp2_with fail
    go_round
    case rel => exact ⟨k + 1, by omega, by go_num, by rw [yy HS2]⟩
    case measure => simp [intOf]; omega
   ·have HS2 : Hid (aJ (ids.take (k + 1)) = aJ (ids.take k) + 1) := yz (by rw [yy HS, if_pos hz])
    go_wp2_with fail
    go_round
    case rel => exact ⟨k + 1, by omega, by go_num, by rw [yy HS2]; go_num⟩
    case measure => simp [intOf]; omega
  ·obtain rfl : k = ids.length := by omega
   go_wp2_with fail
   go_ret
   exact ⟨rfl, rfl⟩
def bX (L : List St) (S : List D3) : List Int × Nat := (dR (bV L S) (L.map (·.1)) S.length []).foldl bT ([], 0)
theorem iT (L : List St) (S : List D3) : bC L S = (if (bX L S).2 = 1 then (bX L S).1 else []) ∧ dI L S = (if (bX L S).2 = 1 then (aJ (bX L S).1 : Int) else 0) ∧ bk L S = (if (bX L S).2 = 0 then 6 else if 1 < (bX L S).2 then 11 else 0) := by
 have h := sS (bV L S) (L.map (·.1)) S.length
 unfold bC dI bk
 change nc (idR L S) (bX L S) at h
 rcases h with ⟨h1, h2, h3⟩ | ⟨h1, h2, h3, h4, h5⟩
 ·rw [h1, h3]
  exact ⟨rfl, rfl, rfl⟩
 ·rw [h4]
  refine ⟨?_, ?_, rfl⟩
  ·split
   ·rename_i e; exact h5 e
   ·rfl
  ·split
   ·rw [h3]
   ·rfl
end
section
open Go.RowKit Go.Sort Go.Shelf
attribute [local go_sem] Oper.semAt_some
abbrev Nam := List Int × Nat
def vy (x : Nam) : Value := .slice (some ⟨x.2, 0, none⟩) x.1.length x.1.length
def vw (x : Nam) (w : World) : Prop := dv w 2 x.2 (x.1.length * 1) (lZ x.1)
structure KpX (p q : Nat) (W W' : World) : Prop where
 size : W.heap.size ≤ W'.heap.size
 os : W'.os = W.os
 tape : W'.tape = W.tape
 output : W'.output = W.output
 same : ∀ k o, W.heap[k]? = some o → (o.isCells = true ∨ o.isWalk = true) → k ≠ p → k ≠ q → W'.heap[k]? = some o
theorem KpX.trans {p q : Nat} {A B C : World} (h : KpX p q A B) (k : KpX p q B C) : KpX p q A C := ⟨Nat.le_trans h.size k.size, k.os.trans h.os, k.tape.trans h.tape, k.output.trans h.output, fun i o hi ho h1 h2 => k.same i o (h.same i o hi ho h1 h2) ho h1 h2⟩
theorem KpX.of_below {p q : Nat} {A B : World} (h : Below A.heap.size A B) : KpX p q A B := ⟨h.size, h.os, h.tape, h.output, fun i o hi _ _ _ => by rw [h.block i (Array.getElem?_eq_some_iff.1 hi).1]; exact hi⟩
def kW (l p q : Nat) (J : List (List Int) → World → Prop) : Prop := ∀ m pre (x : Nam) W, J pre W → (∃ W0, J pre W0 ∧ W0.heap.size ≤ x.2) → vw x W → x.1.length ≤ 6 → YieldAt Fence.wide m Tryz.prog l #[vy x] W fun e W' => e = .returned (.bool true) ∧ J (pre ++ [x.1]) W' ∧ KpX p q W W'
theorem su (L : List St) (S : List D3) (ids : List Int) (ar br : Option Addr) (cr dr b N l p q n : Nat) (J : List (List Int) → World → Prop) (pre : List (List Int)) (w : World) (hm : S.length ≤ 6) (hl : ids.length = S.length) (hN : bm w b N L ids)
  (hJ : J pre w) (hJa : ∀ W W', J pre W → Below W.heap.size W W' → J pre W') (hY : kW l p q J) :
  CallsIn Fence.wide n Tryz.prog 123 #[.agg #[.slice ar L.length cr, .slice br S.length dr, .map (some b)], .int .i64 (ids.length : Int), .func (.yield l) #[] #[]] w fun e W' => e = .returned (.bool true) ∧ J (pre ++ [ids]) W' ∧ KpX p q w W' := by
 have B0 := an w (.cells #[.slice ar L.length cr, .slice br S.length dr, .map (some b)] 163)
 have HB := yz B0
 have HJ := yz (hJa _ _ hJ B0)
 have cI := yz (fun (k : Nat) => callsIn_wide (n := k) |>.2 (uy L ids S.length ar br L.length cr dr b N _ hm (hN.below B0)))
 have HY := yz hY
 have HJa := yz hJa
 clear B0 hN hJ hY hJa
 rw [hl]
 refine callsIn_of_wp Tryz.func123 rfl trivial ?_ rfl
 simp only [Tryz.ntmps123, List.size_toArray, List.length_cons, List.length_nil, Nat.reduceAdd, Nat.reduceSub, Array.replicate_succ, Array.replicate_zero, List.push_toArray, List.append_toArray, List.nil_append, List.cons_append]
 gi_wp2
 refine ⟨trivial, fun h => (by cases h), ?_⟩
 refine (yy cI _).mono ?_
 rintro e w1 ⟨rfl, hrow, hx⟩
 have hsz : (w.alloc (.cells #[.slice ar L.length cr, .slice br S.length dr, .map (some b)] 163)).heap.size = w.heap.size + 1 := by simp
 rw [hsz] at hrow ⊢
 have HY1 := yy HY (n - 1) pre (ids, w.heap.size + 1 + 1) w1 (yy HJa _ _ (yy HJ) hx) ⟨_, yy HJ, by simp⟩ (by unfold vw; dsimp only; rw [hl]; exact hrow) (by dsimp only; omega)
 unfold vy at HY1
 dsimp only at HY1
 rw [hl] at HY1
 have HK := yz (KpX.of_below (p := p) (q := q) (aj (yy HB) hx))
 clear hrow hx hsz cI HY HJa HJ HB
 obtain ⟨fn, tmps, assign, body, hy, hR⟩ := HY1
 gi_wp2
 refine ⟨fun h => (by cases h), ?_⟩
 refine hR.mono ?_
 rintro e w2 ⟨rfl, hJ2, hk2⟩
 have HJ2 := yz hJ2
 have HK2 := yz ((yy HK).trans hk2)
 clear hJ2 hk2 hR hy HK
 gi_wp2
 go_ret
 exact ⟨rfl, yy HJ2, yy HK2⟩
end
section
open Go.RowKit Go.Sort
theorem oD {i j : Nat} (h : i ≠ j) : (Lit.int .i64 (i : Int)) ≠ Lit.int .i64 (j : Int) := fun e => h (by injection e with _ e; omega)
theorem gh (ids : List Int) (a : Int) {i : Nat} (h : i < ids.length) : (ids ++ [a]).getD i 0 = ids.getD i 0 := by rw [List.getD_eq_getElem?_getD, List.getD_eq_getElem?_getD, List.getElem?_append_left h]
theorem jn (ids : List Int) (a : Int) : (ids ++ [a]).getD ids.length 0 = a := by rw [List.getD_eq_getElem?_getD, List.getElem?_append_right (Nat.le_refl _), Nat.sub_self]; rfl
theorem gg (ids : List Int) (a : Int) {i : Nat} (h : ids.length < i) : (ids ++ [a]).getD i 0 = 0 := by
 rw [List.getD_eq_getElem?_getD, List.getElem?_append_right (by omega), List.getElem?_eq_none (by simp; omega)]
 rfl
theorem gL (ids : List Int) {i : Nat} (h : ids.length ≤ i) : ids.getD i 0 = 0 := by rw [List.getD_eq_getElem?_getD, List.getElem?_eq_none h]; rfl
theorem lJ (ids : List Int) (i : Nat) : (ids ++ [(0 : Int)]).getD i 0 = ids.getD i 0 := by
 rcases Nat.lt_trichotomy i ids.length with h | h | h
 ·exact gh ids 0 h
 ·rw [h, jn, gL ids (Nat.le_refl _)]
 ·rw [gg ids 0 h, gL ids (by omega)]
theorem iI.snoc0 {D : DataW Unit} {L : List St} {ids : List Int} (h : iI D L ids) : iI D L (ids ++ [0]) := fun i hi => by
 have h1 := h i hi
 unfold dB at h1 ⊢
 rw [lJ]
 exact h1
theorem iI.put {D : DataW Unit} {L : List St} {ids : List Int} {a : Int} (h : iI D L ids) (hm : Maps.IsMap D) (ha : a ≠ 0) : iI (D.put (.int .i64 (ids.length : Int)) (kJ (a, atV L L.length a))) L (ids ++ [a]) := fun i hi => by
 by_cases e : i = ids.length
 ·subst e
  rw [Maps.has_put_same hm (by trivial), Maps.atKey_put_same hm (by trivial)]
  unfold dB
  rw [jn, if_pos ha]
  exact ⟨by simp [ha], rfl⟩
 ·rw [Maps.has_put_other (oD e), Maps.atKey_put_other (oD e)]
  have h1 := h i hi
  unfold dB at h1 ⊢
  have e2 : (ids ++ [a]).getD i 0 = ids.getD i 0 := by
   rcases Nat.lt_or_gt_of_ne e with h2 | h2
   ·exact gh ids a h2
   ·rw [gg ids a h2, gL ids (by omega)]
  rw [e2]
  exact h1
theorem iI.del {D : DataW Unit} {L : List St} {ids : List Int} {a : Int} (h : iI D L (ids ++ [a])) : iI (D.del (.int .i64 (ids.length : Int))) L ids := fun i hi => by
 by_cases e : i = ids.length
 ·subst e
  rw [Maps.has_del_same, Maps.atKey_del_same]
  unfold dB
  rw [gL ids (Nat.le_refl _), if_neg (by simp)]
  exact ⟨by simp, rfl⟩
 ·rw [Maps.has_del_other (oD e), Maps.atKey_del_other (oD e)]
  have h1 := h i hi
  unfold dB at h1 ⊢
  have e2 : (ids ++ [a]).getD i 0 = ids.getD i 0 := by
   rcases Nat.lt_or_gt_of_ne e with h2 | h2
   ·exact gh ids a h2
   ·rw [gg ids a h2, gL ids (by omega)]
  rw [e2] at h1
  exact h1
def fk (F : List Int → Int → Bool) (A : List Int) (r : Nat) (ids : List Int) (i : Nat) : List (List Int) := ((A.take i).filter (F ids)).flatMap (fun a => dR F A r (ids ++ [a]))
theorem qQ (F : List Int → Int → Bool) (A : List Int) (r : Nat) (ids : List Int) : fk F A r ids 0 = [] := rfl
theorem mb (F : List Int → Int → Bool) (A : List Int) (r : Nat) (ids : List Int) {i : Nat} (hi : i < A.length) : fk F A r ids (i + 1) = fk F A r ids i ++ if F ids (A.getD i 0) = true then dR F A r (ids ++ [A.getD i 0]) else [] := by
 unfold fk
 rw [List.take_succ_eq_append_getElem hi, List.filter_append, List.flatMap_append]
 have e : A.getD i 0 = A[i] := by rw [List.getD_eq_getElem?_getD, List.getElem?_eq_getElem hi]; rfl
 rw [e]
 congr 1
 cases h : F ids A[i] <;> simp [h]
theorem rU (F : List Int → Int → Bool) (A : List Int) (r : Nat) (ids : List Int) : dR F A (r + 1) ids = fk F A r ids A.length ++ dR F A r (ids ++ [0]) := by
 unfold fk
 rw [List.take_length]
 rfl
theorem tv (L : List St) (S : List D3) (ids : List Int) (a : Int) : bV L S ids a = dw (au L S ids ids.length) (vA S ids.length, (a, atV L L.length a)) (au L S ids ids.length).length := ou L S ids _ ids.length
end
section
open Go.RowKit Go.Sort Go.Shelf
attribute [local go_sem] Oper.semAt_some
structure KpM (b p q : Nat) (W W' : World) : Prop where
 size : W.heap.size ≤ W'.heap.size
 os : W'.os = W.os
 tape : W'.tape = W.tape
 output : W'.output = W.output
 same : ∀ k o, W.heap[k]? = some o → (o.isCells = true ∨ o.isWalk = true) → k ≠ b → k ≠ p → k ≠ q → W'.heap[k]? = some o
theorem KpM.trans {b p q : Nat} {A B C : World} (h : KpM b p q A B) (k : KpM b p q B C) : KpM b p q A C := ⟨Nat.le_trans h.size k.size, k.os.trans h.os, k.tape.trans h.tape, k.output.trans h.output, fun i o hi ho h0 h1 h2 => k.same i o (h.same i o hi ho h0 h1 h2) ho h0 h1 h2⟩
theorem KpX.toM {b p q : Nat} {A B : World} (h : KpX p q A B) : KpM b p q A B := ⟨h.size, h.os, h.tape, h.output, fun i o hi ho _ h1 h2 => h.same i o hi ho h1 h2⟩
theorem KpM.of_grown {b p q : Nat} {A B : World} (h : A.grownBy B (some b)) : KpM b p q A B := ⟨h.size, h.os, h.tape, h.output, fun i o hi _ h0 _ _ => by rw [h.block i (Array.getElem?_eq_some_iff.1 hi).1 (fun e => h0 (Option.some.inj e))]; exact hi⟩
theorem KpM.of_below {b p q : Nat} {A B : World} (h : Below A.heap.size A B) : KpM b p q A B := KpM.of_grown (bH h)
theorem KpM.cell {b p q : Nat} {A B : World} (h : KpM b p q A B) {a : Addr} {v : Value} (hc : A.cell? a = some v) (h0 : a.block ≠ b) (h1 : a.block ≠ p) (h2 : a.block ≠ q) : B.cell? a = some v := by
 obtain ⟨o, ho, hi⟩ := cells_of_cell hc
 have e := h.same a.block o ho (.inl hi) h0 h1 h2
 rw [← hc]
 exact World.cell?_of_block (e.trans ho.symm)
def gC (a : Option Addr) (b p q : Nat) : Prop := ∀ y, a = some y → y.block ≠ b ∧ y.block ≠ p ∧ y.block ≠ q
theorem uf {b p q : Nat} {w w' : World} {a : Option Addr} {L : List St} {n : Nat} (h : aH w a L n) (hg : KpM b p q w w') (hne : gC a b p q) : aH w' a L n := by
 rcases h with h | ⟨c, o, rfl, hb, hc⟩
 ·exact .inl h
 ·obtain ⟨n0, n1, n2⟩ := hne _ rfl
  refine .inr ⟨c, o, rfl, Nat.lt_of_lt_of_le hb hg.size, fun i hi => ?_⟩
  obtain ⟨c0, c1, c2, c3⟩ := hc i hi
  exact ⟨hg.cell c0 n0 n1 n2, hg.cell c1 n0 n1 n2, hg.cell c2 n0 n1 n2, hg.cell c3 n0 n1 n2⟩
theorem uU {b p q : Nat} {w w' : World} {a : Option Addr} {L : List D3} {n : Nat} (h : co w a L n) (hg : KpM b p q w w') (hne : gC a b p q) : co w' a L n := by
 rcases h with h | ⟨c, o, rfl, hb, hc⟩
 ·exact .inl h
 ·obtain ⟨n0, n1, n2⟩ := hne _ rfl
  refine .inr ⟨c, o, rfl, Nat.lt_of_lt_of_le hb hg.size, fun i hi => ?_⟩
  obtain ⟨c0, c1, c2⟩ := hc i hi
  exact ⟨hg.cell c0 n0 n1 n2, hg.cell c1 n0 n1 n2, hg.cell c2 n0 n1 n2⟩
theorem uI {b p q : Nat} {w w' : World} {a : Option Addr} {A : List Sg} {n : Nat} (h : dQ w a A n) (hg : KpM b p q w w') (hne : gC a b p q) : dQ w' a A n := by
 rcases h with h | ⟨c, o, rfl, hb, hc⟩
 ·exact .inl h
 ·obtain ⟨n0, n1, n2⟩ := hne _ rfl
  refine .inr ⟨c, o, rfl, Nat.lt_of_lt_of_le hb hg.size, fun i hi => ?_⟩
  obtain ⟨c0, c1, c2, c3, c4, c5, c6⟩ := hc i hi
  exact ⟨hg.cell c0 n0 n1 n2, hg.cell c1 n0 n1 n2, hg.cell c2 n0 n1 n2, hg.cell c3 n0 n1 n2, hg.cell c4 n0 n1 n2, hg.cell c5 n0 n1 n2, hg.cell c6 n0 n1 n2⟩
theorem bm.isMap {w : World} {b n : Nat} {L : List St} {ids : List Int} (h : bm w b n L ids) : ∃ es c, w.heap[b]? = some (.map es c) := by
 obtain ⟨D, ⟨es, c, hh, _⟩, _⟩ := h
 exact ⟨es, c, hh⟩
def JAb (b : Nat) (J : List (List Int) → World → Prop) : Prop := ∀ pre W W', J pre W → (∃ es c, W.heap[b]? = some (.map es c)) → W.grownBy W' (some b) → J pre W'
def ul (L : List St) (S : List D3) (ar br : Option Addr) (cr dr b l p q : Nat) (J : List (List Int) → World → Prop) (r : Nat) : Prop := ∀ (ids : List Int) (pre : List (List Int)) (N n : Nat) (w : World), ids.length + r = S.length → N + 13 ^ r ≤ 100000000 → bm w b N L ids → aH w ar L L.length → co w br S S.length → p < w.heap.size → q < w.heap.size → J pre w →
  CallsIn Fence.wide n Tryz.prog 123 #[.agg #[.slice ar L.length cr, .slice br S.length dr, .map (some b)], .int .i64 (ids.length : Int), .func (.yield l) #[] #[]] w fun e W' => e = .returned (.bool true) ∧ J (pre ++ dR (bV L S) (L.map (·.1)) r ids) W' ∧ bm W' b (N + (13 ^ r - 1)) L ids ∧ KpM b p q w W'
theorem sy (L : List St) (S : List D3) (ar br : Option Addr) (cr dr b l p q : Nat) (J : List (List Int) → World → Prop) (hm : S.length ≤ 6) (hJ : JAb b J) (hY : kW l p q J) (hbp : b ≠ p) (hbq : b ≠ q) : ul L S ar br cr dr b l p q J 0 := fun ids pre N n w hl hN13 hN hS hD hp hq hj => by
 refine (su L S ids ar br cr dr b N l p q n (fun pre' W => J pre' W ∧ ∃ es c, W.heap[b]? = some (.map es c)) pre w hm (by omega) hN ⟨hj, hN.isMap⟩ (fun W W' h hB => ?_) (fun m pre' x W h1 hq0 h2 h3 => ?_)).mono fun e W' h => ⟨h.1, h.2.1.1, ?_, h.2.2.toM⟩
 ·obtain ⟨es, c, hh⟩ := h.2
  exact ⟨hJ _ _ _ h.1 h.2 (bH hB), es, c, by rw [hB.block b (Array.getElem?_eq_some_iff.1 hh).1]; exact hh⟩
 ·obtain ⟨fn, tmps, assign, body, hy, hR⟩ := hY m pre' x W h1.1 (hq0.elim fun W0 h => ⟨W0, h.1.1, h.2⟩) h2 h3
  refine ⟨fn, tmps, assign, body, hy, hR.mono fun e W' h => ⟨h.1, ⟨h.2.1, ?_⟩, h.2.2⟩⟩
  obtain ⟨es, c, hh⟩ := h1.2
  exact ⟨es, c, h.2.2.same b _ hh (.inr rfl) hbp hbq⟩
 ·obtain ⟨D, ⟨es, c, hh, rest⟩, hM⟩ := hN
  exact ⟨D, (show W'.ownsMap Tryz.prog 3 mx b N D from ⟨es, c, h.2.2.same b _ hh (.inr rfl) hbp hbq, rest⟩).mono (by omega), hM⟩
end
section
open Go.RowKit Go.Sort
theorem vO {a b c d : Int} (h : inT 1000 a b c d = true) (g : Int) (hg : g = sT a b c d) : wrap64 (a.tdiv g) = a.tdiv (sT a b c d) ∧ wrap64 (b.tdiv g) = b.tdiv (sT a b c d) ∧ wrap64 (c.tdiv g) = c.tdiv (sT a b c d) ∧ wrap64 (d.tdiv g) = d.tdiv (sT a b c d) := by
 subst hg
 obtain ⟨x1, x2, x3, x4⟩ := ch.1 h
 have key : ∀ (x s : Int), -1000 ≤ x ∧ x ≤ 1000 → wrap64 (x.tdiv s) = x.tdiv s := fun x s hx => by have := rO (s := s) hx; exact ap (by omega) (by omega)
 exact ⟨key _ _ x1, key _ _ x2, key _ _ x3, key _ _ x4⟩
theorem sC (a b c d : Int) (w : World) (h : inT 1000 a b c d = true) (hz : fs a b c d = false) :
  Calls Tryz.prog 97 #[.agg #[.int .i64 a, .int .i64 b, .int .i64 c, .int .i64 d]] w fun e w' => e = .returned (.agg #[.int .i64 (ofP a b c d a), .int .i64 (ofP a b c d b), .int .i64 (ofP a b c d c), .int .i64 (ofP a b c d d), .int .i64 (ofC a b c d)]) ∧ Below w.heap.size w w' := by
 have HI := yz h
 have HZ := yz hz
 have HN : Hid (sT a b c d ≠ 0) := yz (uX (hZ hz))
 have HW := yz (vO h)
 have hw : wrap64 (-gT a b c d) = -gT a b c d := by have := jU h 4; rw [show gS4 a b c d 4 = gT a b c d from lI a b c d] at this; exact ap (by omega) (by omega)
 clear h hz
 go_enter Tryz.func97, Tryz.ntmps97
 go_wp2_with fail
 refine (lN a b c d _ (yy HI)).mono ?_
 rintro e w1 ⟨rfl, hB1⟩
 have va : aI w1 w.heap.size a b c d := ((aO w a b c d _).alloc _).kept (by simp; omega) hB1
 have vr : bZ w1 (w.heap.size + 1) 0 0 0 0 0 := (by simpa using cf (w.alloc _) 0 0 0 0 0 _ : bZ _ (w.heap.size + 1) 0 0 0 0 0).kept hB1
 have fr : ft w1 (w.heap.size + 1) := (by simpa using fb (w.alloc _) 0 0 0 0 0 _ : ft _ (w.heap.size + 1)).kept (by simp) hB1
 have hB : Below w.heap.size w w1 := aj (aM _ _ _) hB1
 clear hB1
 have hva := va
 obtain ⟨ca0, ca1, ca2, ca3⟩ := va
 go_wp2_with fail
 refine (gk a b c d _).mono ?_
 rintro e w2 ⟨rfl, hB2⟩
 have hlt := vr.lt
 have va := hva.kept hva.lt hB2
 replace vr := vr.kept hB2
 replace fr := fr.kept hlt hB2
 replace hB := aj hB hB2
 clear hB2 hva ca0 ca1 ca2 ca3 hlt
 by_cases hf : fT a b c d < 0
 ·have hs : sT a b c d = -gT a b c d := by unfold sT; rw [if_pos hf]
  have HG := yz hs.symm
  rw [hs] at HN
  have va2 := va.alloc (.cells #[.int .i64 0, .int .i64 0, .int .i64 0, .int .i64 0] 25)
  obtain ⟨ca0, ca1, ca2, ca3⟩ := va
  obtain ⟨cb0, cb1, cb2, cb3⟩ := va2
  go_wp2_with fail
  rw [hw]
  generalize -gT a b c d = g at HN HG ⊢
  clear hw hs hf
  have hne : g ≠ 0 := yy HN
  have hz0 : (g == 0) = false := by simpa using hne
  go_region
  go_wp2_with fail
  obtain ⟨e1, e2, e3, e4⟩ := yy HW g (yy HG)
  rw [e1, e2, e3, e4]
  clear e1 e2 e3 e4 HW cb0 cb1 cb2 cb3 ca0 ca1 ca2 ca3
  cases hr : aC (a.tdiv (sT a b c d)) (b.tdiv (sT a b c d)) (c.tdiv (sT a b c d)) (d.tdiv (sT a b c d))
  ·have HR := yz (oM (yy HI) (yy HZ) hr)
   generalize a.tdiv (sT a b c d) = p at hr ⊢
   generalize b.tdiv (sT a b c d) = q at hr ⊢
   generalize c.tdiv (sT a b c d) = r at hr ⊢
   generalize d.tdiv (sT a b c d) = s at hr ⊢
   have hx := (an w2 (.cells #[.int .i64 p, .int .i64 q, .int .i64 r, .int .i64 s] 25)).drew
   have hlt := vr.lt
   replace vr := vr.kept hx
   replace fr := fr.kept hlt hx
   replace hB := aj hB hx
   clear hx hlt
   refine (bc p q r s _).mono ?_
   rintro e w3 ⟨rfl, hB3⟩
   rw [hr]
   have hlt := vr.lt
   replace vr := vr.kept hB3
   replace fr := fr.kept hlt hB3
   replace hB := aj hB hB3
   clear hB3 hlt
   obtain ⟨cr0, cr1, cr2, cr3, cr4⟩ := vr
   obtain ⟨fr0, fr1, fr2, fr3, fr4⟩ := fr
   go_wp2_with fail
   exact bodyPost_ret (v := .agg #[.int .i64 0, .int .i64 0, .int .i64 0, .int .i64 0, .int .i64 9]) (by simp [results, Tryz.results97, go_sem, cr0, cr1, cr2, cr3, cr4]) rfl ⟨by rw [yy HR], aZ hB (by omega) _ _ _ _ _⟩
  ·have HR := yz (tV (yy HI) (yy HZ) hr)
   generalize a.tdiv (sT a b c d) = p at hr HR ⊢
   generalize b.tdiv (sT a b c d) = q at hr HR ⊢
   generalize c.tdiv (sT a b c d) = r at hr HR ⊢
   generalize d.tdiv (sT a b c d) = s at hr HR ⊢
   have hx := (an w2 (.cells #[.int .i64 p, .int .i64 q, .int .i64 r, .int .i64 s] 25)).drew
   have hlt := vr.lt
   have vt1 : aI (w2.alloc (.cells #[.int .i64 p, .int .i64 q, .int .i64 r, .int .i64 s] 25)).drew w2.heap.size p q r s := aO w2 p q r s _
   replace vr := vr.kept hx
   replace fr := fr.kept hlt hx
   replace hB := aj hB hx
   clear hx hlt
   refine (bc p q r s _).mono ?_
   rintro e w3 ⟨rfl, hB3⟩
   rw [hr]
   have hlt := vr.lt
   replace vr := vr.kept hB3
   replace fr := fr.kept hlt hB3
   replace vt1 := vt1.kept vt1.lt hB3
   obtain ⟨ct0, ct1, ct2, ct3⟩ := vt1
   replace hB := aj hB hB3
   clear hB3 hlt
   obtain ⟨cr0, cr1, cr2, cr3, cr4⟩ := vr
   obtain ⟨fr0, fr1, fr2, fr3, fr4⟩ := fr
   go_wp2_with fail
   exact bodyPost_ret (v := .agg #[.int .i64 p, .int .i64 q, .int .i64 r, .int .i64 s, .int .i64 0]) (by simp [results, Tryz.results97, go_sem, cr0, cr1, cr2, cr3, cr4]) rfl ⟨by rw [yy HR], aZ hB (by omega) _ _ _ _ _⟩
 ·have hs : sT a b c d = gT a b c d := by unfold sT; rw [if_neg hf]
  have HG := yz hs.symm
  rw [hs] at HN
  have va2 := va.alloc (.cells #[.int .i64 0, .int .i64 0, .int .i64 0, .int .i64 0] 25)
  obtain ⟨ca0, ca1, ca2, ca3⟩ := va
  obtain ⟨cb0, cb1, cb2, cb3⟩ := va2
  go_wp2_with fail
  generalize gT a b c d = g at HN HG ⊢
  clear hw hs hf
  have hne : g ≠ 0 := yy HN
  have hz0 : (g == 0) = false := by simpa using hne
  go_region
  go_wp2_with fail
  obtain ⟨e1, e2, e3, e4⟩ := yy HW g (yy HG)
  rw [e1, e2, e3, e4]
  clear e1 e2 e3 e4 HW cb0 cb1 cb2 cb3 ca0 ca1 ca2 ca3
  cases hr : aC (a.tdiv (sT a b c d)) (b.tdiv (sT a b c d)) (c.tdiv (sT a b c d)) (d.tdiv (sT a b c d))
  ·have HR := yz (oM (yy HI) (yy HZ) hr)
   generalize a.tdiv (sT a b c d) = p at hr ⊢
   generalize b.tdiv (sT a b c d) = q at hr ⊢
   generalize c.tdiv (sT a b c d) = r at hr ⊢
   generalize d.tdiv (sT a b c d) = s at hr ⊢
   have hx := (an w2 (.cells #[.int .i64 p, .int .i64 q, .int .i64 r, .int .i64 s] 25)).drew
   have hlt := vr.lt
   replace vr := vr.kept hx
   replace fr := fr.kept hlt hx
   replace hB := aj hB hx
   clear hx hlt
   refine (bc p q r s _).mono ?_
   rintro e w3 ⟨rfl, hB3⟩
   rw [hr]
   have hlt := vr.lt
   replace vr := vr.kept hB3
   replace fr := fr.kept hlt hB3
   replace hB := aj hB hB3
   clear hB3 hlt
   obtain ⟨cr0, cr1, cr2, cr3, cr4⟩ := vr
   obtain ⟨fr0, fr1, fr2, fr3, fr4⟩ := fr
   go_wp2_with fail
   exact bodyPost_ret (v := .agg #[.int .i64 0, .int .i64 0, .int .i64 0, .int .i64 0, .int .i64 9]) (by simp [results, Tryz.results97, go_sem, cr0, cr1, cr2, cr3, cr4]) rfl ⟨by rw [yy HR], aZ hB (by omega) _ _ _ _ _⟩
  ·have HR := yz (tV (yy HI) (yy HZ) hr)
   generalize a.tdiv (sT a b c d) = p at hr HR ⊢
   generalize b.tdiv (sT a b c d) = q at hr HR ⊢
   generalize c.tdiv (sT a b c d) = r at hr HR ⊢
   generalize d.tdiv (sT a b c d) = s at hr HR ⊢
   have hx := (an w2 (.cells #[.int .i64 p, .int .i64 q, .int .i64 r, .int .i64 s] 25)).drew
   have hlt := vr.lt
   have vt1 : aI (w2.alloc (.cells #[.int .i64 p, .int .i64 q, .int .i64 r, .int .i64 s] 25)).drew w2.heap.size p q r s := aO w2 p q r s _
   replace vr := vr.kept hx
   replace fr := fr.kept hlt hx
   replace hB := aj hB hx
   clear hx hlt
   refine (bc p q r s _).mono ?_
   rintro e w3 ⟨rfl, hB3⟩
   rw [hr]
   have hlt := vr.lt
   replace vr := vr.kept hB3
   replace fr := fr.kept hlt hB3
   replace vt1 := vt1.kept vt1.lt hB3
   obtain ⟨ct0, ct1, ct2, ct3⟩ := vt1
   replace hB := aj hB hB3
   clear hB3 hlt
   obtain ⟨cr0, cr1, cr2, cr3, cr4⟩ := vr
   obtain ⟨fr0, fr1, fr2, fr3, fr4⟩ := fr
   go_wp2_with fail
   exact bodyPost_ret (v := .agg #[.int .i64 p, .int .i64 q, .int .i64 r, .int .i64 s, .int .i64 0]) (by simp [results, Tryz.results97, go_sem, cr0, cr1, cr2, cr3, cr4]) rfl ⟨by rw [yy HR], aZ hB (by omega) _ _ _ _ _⟩
theorem gY (a b c d : Int) (w : World) :
  Calls Tryz.prog 68 #[.int .i64 a, .int .i64 b, .int .i64 c, .int .i64 d] w fun e w' => e = .returned (.agg #[.int .i64 (ofP a b c d a), .int .i64 (ofP a b c d b), .int .i64 (ofP a b c d c), .int .i64 (ofP a b c d d), .int .i64 (ofC a b c d)]) ∧ Below w.heap.size w w' := by
 go_enter Tryz.func68, Tryz.ntmps68
 go_wp2_with fail
 refine (iN 1000 a b c d _ (by omega) (by omega)).mono ?_
 rintro e w1 ⟨rfl, hB1⟩
 have vr : bZ w1 w.heap.size 0 0 0 0 0 := ((cf w 0 0 0 0 0 _).alloc _).kept hB1
 have fr : ft w1 w.heap.size := ((fb w 0 0 0 0 0 _).kept (by simp) (an _ _)).kept (by simp; omega) hB1
 have va : aI w1 (w.heap.size + 1) a b c d := (by simpa using aO (w.alloc _) a b c d _ : aI _ (w.heap.size + 1) a b c d).kept (by simp) hB1
 have hB : Below w.heap.size w w1 := aj (aM _ _ _) hB1
 clear hB1
 cases hi : inT 1000 a b c d
 ·have HR := yz (la (a := a) (b := b) (c := c) (d := d) (by rw [hi]; rfl))
  obtain ⟨cr0, cr1, cr2, cr3, cr4⟩ := vr
  obtain ⟨fr0, fr1, fr2, fr3, fr4⟩ := fr
  go_wp2_with fail
  exact bodyPost_ret (v := .agg #[.int .i64 0, .int .i64 0, .int .i64 0, .int .i64 0, .int .i64 1]) (by simp [results, Tryz.results68, go_sem, cr0, cr1, cr2, cr3, cr4]) rfl ⟨by rw [yy HR], aZ hB (by omega) _ _ _ _ _⟩
 ·have hva := va
  obtain ⟨ca0, ca1, ca2, ca3⟩ := va
  go_wp2_with fail
  refine (gk a b c d _).mono ?_
  rintro e w2 ⟨rfl, hB2⟩
  have hlt := vr.lt
  replace vr := vr.kept hB2
  replace fr := fr.kept hlt hB2
  have va := hva.kept hva.lt hB2
  replace hB := aj hB hB2
  clear hB2 hva ca0 ca1 ca2 ca3 hlt
  by_cases hf : fT a b c d = 0
  ·have HR := yz (la (a := a) (b := b) (c := c) (d := d) (by rw [fY.2 (kZ.1 hf)]; simp))
   rw [hf]
   obtain ⟨cr0, cr1, cr2, cr3, cr4⟩ := vr
   obtain ⟨fr0, fr1, fr2, fr3, fr4⟩ := fr
   go_wp2_with fail
   exact bodyPost_ret (v := .agg #[.int .i64 0, .int .i64 0, .int .i64 0, .int .i64 0, .int .i64 1]) (by simp [results, Tryz.results68, go_sem, cr0, cr1, cr2, cr3, cr4]) rfl ⟨by rw [yy HR], aZ hB (by omega) _ _ _ _ _⟩
  ·have HZ : Hid (fs a b c d = false) := yz (by rw [← Bool.not_eq_true, fY]; exact fun e => hf (kZ.2 e))
   have hb : (fT a b c d == 0) = false := by simpa using hf
   clear hf
   obtain ⟨ca0, ca1, ca2, ca3⟩ := va
   go_wp2_with fail
   refine (sC a b c d _ hi (yy HZ)).mono ?_
   rintro e w3 ⟨rfl, hB3⟩
   have hlt := vr.lt
   replace vr := vr.kept hB3
   replace fr := fr.kept hlt hB3
   replace hB := aj hB hB3
   clear hB3 ca0 ca1 ca2 ca3 hlt
   obtain ⟨cr0, cr1, cr2, cr3, cr4⟩ := vr
   obtain ⟨fr0, fr1, fr2, fr3, fr4⟩ := fr
   go_wp2_with fail
   exact bodyPost_ret (v := .agg #[.int .i64 (ofP a b c d a), .int .i64 (ofP a b c d b), .int .i64 (ofP a b c d c), .int .i64 (ofP a b c d d), .int .i64 (ofC a b c d)]) (by simp [results, Tryz.results68, go_sem, cr0, cr1, cr2, cr3, cr4]) rfl ⟨rfl, aZ hB (by omega) _ _ _ _ _⟩
end
end Go.Proofs.YtgiodlllokdcdaaGreatDoor
