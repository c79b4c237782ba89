/- Several texts in one: InK. -/
import Derived.Lib.QuietBelow
import Derived.BigQuiet
import Derived.Test.YthoiooefclbecaaGreatDoorQFnSkyOwn39
namespace Go.Proofs.YthoiooefclbecaaGreatDoor
set_option linter.unusedVariables false
set_option linter.unusedSimpArgs false
set_option maxRecDepth 100000
set_option maxHeartbeats 8000000
section
open Go.RowKit Go.Sort
theorem cl {w : World} {B m n b : Nat} {t t' : TypeId} {v : Value} {xs cs : List Value} (h : w.ownsRow B t m v n xs) (h' : Blk w b cs t') (ht : t ≠ t') : v.ownBlock = none ∨ v.ownBlock ≠ some b := by
 rcases h.2 with ⟨rfl, _⟩ | ⟨g, cap, cur, rfl, _, hg, _⟩
 ·exact .inl rfl
 ·refine .inr (fun e => ?_)
  obtain rfl : g = b := Option.some.inj e
  have h2 : w.heap[g]? = some (.cells cs.toArray t') := h'
  rw [hg] at h2
  injection h2 with e1
  injection e1 with _ e2
  exact ht e2
theorem gp (W : World) (b i : Nat) (v : Value) : W.grownBy (W.setCell ⟨b, i, none⟩ v) (some b) := ⟨rfl, rfl, rfl, by simp [World.setCell], fun k _ hk => heap_setCell_other W _ k _ (fun e => hk (by rw [e]))⟩
theorem gO (W : World) (b : Nat) (x0 x1 x2 x3 : Value) : W.grownBy ((((W.setCell ⟨b, 0, none⟩ x0).setCell ⟨b, 1, none⟩ x1).setCell ⟨b, 2, none⟩ x2).setCell ⟨b, 3, none⟩ x3) (some b) := al (al (al (gp _ _ _ _) (gp _ _ _ _)) (gp _ _ _ _)) (gp _ _ _ _)
theorem mO {W : World} {b : Nat} {v0 v1 v2 v3 : Value} {t : TypeId} (h : Blk W b [v0, v1, v2, v3] t) (x0 x1 x2 x3 : Value) : Blk ((((W.setCell ⟨b, 0, none⟩ x0).setCell ⟨b, 1, none⟩ x1).setCell ⟨b, 2, none⟩ x2).setCell ⟨b, 3, none⟩ x3) b [x0, x1, x2, x3] t := Blk.set (Blk.set (Blk.set (Blk.set h 0 _) 1 _) 2 _) 3 _
theorem Row.upI {w w' : World} {a : Option Addr} {len B B' : Nat} (h : Row w a len B) (hB : B ≤ B') (hk : ∀ k, k < B → w'.heap[k]? = w.heap[k]?) : Row w' a len B' := by
 rcases h with h | ⟨b, o, rfl, hb, h⟩
 ·exact .inl h
 ·refine .inr ⟨b, o, rfl, Nat.lt_of_lt_of_le hb hB, fun i hi => ?_⟩
  obtain ⟨v, hv, h2⟩ := h i hi
  exact ⟨v, by rw [World.cell?_of_block (a := ⟨b, o + i, none⟩) (hk b hb)]; exact hv, h2⟩
theorem rq (ids : List Int) {j : Nat} (hj : j < ids.length) : (fg ids)[j]? = some (.int .i64 (ids.getD j 0)) := by
 unfold fg
 rw [List.getElem?_map, List.getElem?_eq_getElem hj, List.getD_eq_getElem?_getD, List.getElem?_eq_getElem hj]
 rfl
theorem lC {w : World} {B n : Nat} {v : Value} {ids : List Int} (hn : ids.length = n) (h : w.ownsRow B 2 1 v n (fg ids)) : ∃ a k, v = .slice a n k ∧ ii w a ids n ∧ n ≤ k ∧ k ≤ maxLen := by
 subst hn
 obtain ⟨a, k, e, _⟩ := em h
 subst e
 refine ⟨a, k, rfl, ?_⟩
 rcases h.2 with ⟨h1, h0⟩ | ⟨g, cap, cur, e, hb, hg, h1, h2, h3, h4⟩
 ·injection h1 with e1 e2 e3
  exact ⟨.inl h0, by omega, by rw [e3]; exact Nat.zero_le _⟩
 ·injection e with e1 e2 e3
  subst e1 e3
  refine ⟨.inr ⟨g, 0, rfl, (Array.getElem?_eq_some_iff.1 hg).1, fun i hi => ?_⟩, h1, h2⟩
  have := World.ownsRow.cellAt h (i * 1 + 0) (by omega)
  rw [Nat.mul_one, Nat.add_zero] at this
  rw [Nat.zero_add, this, rq ids hi]
theorem nC (L : List Int) (a a' : Option Addr) (c c' : Nat) (w : World) (hn : L.length ≤ 1048576) (hS : ii w a L L.length) (hS' : ii w a' L L.length) :
  Calls Tryz.prog 21 #[.slice a L.length c, .slice a' L.length c'] w fun e w' => e = .returned (.bool true) ∧ Below w.heap.size w w' := by
 have HS := yz hS
 have HS' := yz hS'
 clear hS hS'
 go_enter Tryz.func21, Tryz.ntmps21
 go_wp2_with fail
 go_loopw [5] (fun i wr => ∃ k : Nat, k ≤ L.length ∧ i = .int .i64 k ∧ Hid (Below w.heap.size w wr)) (fun i _ => L.length - (intOf i).toNat)
 case atStart => exact ⟨0, by omega, rfl, yz (Below.refl _ _)⟩
 case round =>
  obtain ⟨k, hk, rfl, HB⟩ := hrel
  by_cases hkn : k < L.length
  ·have hkn2 : (k : Int) < (L.length : Int) := by omega
   have h1 : ∃ g o, a = some ⟨g, o, none⟩ ∧ wr.cell? ⟨g, o + k, none⟩ = some (.int .i64 (L.getD k 0)) := by
    rcases (yy HS).kept (yy HB) with h | ⟨g, o, e, _, h⟩
    ·omega
    ·exact ⟨g, o, e, h k hkn⟩
   have h2 : ∃ g o, a' = some ⟨g, o, none⟩ ∧ wr.cell? ⟨g, o + k, none⟩ = some (.int .i64 (L.getD k 0)) := by
    rcases (yy HS').kept (yy HB) with h | ⟨g, o, e, _, h⟩
    ·omega
    ·exact ⟨g, o, e, h k hkn⟩
   obtain ⟨g, o, rfl, hc⟩ := h1
   obtain ⟨g', o', rfl, hd⟩ := h2
   generalize L.getD k 0 = z at *
   have r0 := cell_regrown hc
   have t0 := cell_regrown hd
   have hzz : (z == z) = true := by simp
   clear hc hd
   go_wp2_with fail
   refine wp_region_quiet_below (by kernel_rfl) (by kernel_rfl) ?_
   repeat (go_big_quiet_step (fail))
   refine wpQuiet_nil ?_
   intro _ hw'
   obtain ⟨⟨dq, osq⟩, hw''⟩ := hw'
   subst hw''
   have hx := ak (yy HB) (below_regrown wr dq osq)
   generalize grow (redrawn wr dq) osq = W2 at hx ⊢
   have HB2 := yz hx
   clear hx HB r0 t0
   go_wp2_with fail
   go_roundw
   case rel => exact ⟨k + 1, by omega, by go_num, HB2⟩
   case measure => simp [intOf] <;> omega
  ·have hkn' : k = L.length := by omega
   subst hkn'
   go_wp2_with fail
   go_ret
   exact ⟨rfl, yy HB⟩
end
end Go.Proofs.YthoiooefclbecaaGreatDoor
