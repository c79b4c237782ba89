/- Several texts in one: TfM, TfA, TfB. -/
import Derived.Test.YtoakkmjcbnfljaaGreatDoorQFnIdentOwn4
import Derived.Test.YtoakkmjcbnfljaaGreatDoorQFnIdentOwn35
import Derived.Test.YtoakkmjcbnfljaaGreatDoorQFnIdentOwn6
import Derived.Test.YtoakkmjcbnfljaaGreatDoorQFnIdentOwn3
import Derived.Test.YtoakkmjcbnfljaaGreatDoorQFnIdentOwn7
namespace Go.Proofs.YtoakkmjcbnfljaaGreatDoor
set_option linter.unusedVariables false
set_option linter.unusedSimpArgs false
set_option maxRecDepth 100000
set_option maxHeartbeats 8000000
section
open Go.RowKit
def bR (t : T4) (s : Sg) : Bool := aS s.1 (apD t.1 t.2.1 t.2.2.1 t.2.2.2 s.2.2)
def bC (A : List Sg) (t : T4) : Bool := A.all (bR t)
theorem rW {A : List Sg} {t : T4} (h : ∀ i, i < A.length → bR t (sgA A i) = true) : bC A t = true := by
 unfold bC
 rw [← fz, List.all_eq_true]
 exact fun i hi => h i (List.mem_range.1 hi)
theorem tf {A : List Sg} {t : T4} {i : Nat} (hi : i < A.length) (h : bR t (sgA A i) = false) : bC A t = false := by
 unfold bC
 rw [← fz, List.all_eq_false]
 exact ⟨i, List.mem_range.2 hi, by rw [h]; simp⟩
def dw (A : List Sg) (T : List T4) : T4 × Int := match T.find? (bC A) with | some t => (t, 0) | none => ((0, 0, 0, 0), 6)
theorem pZ {T : List T4} {k : Nat} (hk : k < T.length) : T[k]? = some (tA T k) := by unfold tA; rw [List.getD_eq_getElem?_getD, List.getElem?_eq_getElem hk]; rfl
theorem oq {A : List Sg} {T : List T4} {k : Nat} (hk : k < T.length) (h : ∀ j, j < k → bC A (tA T j) = false) (h1 : bC A (tA T k) = true) : dw A T = (tA T k, 0) := by
 unfold dw
 have : T.find? (bC A) = some (tA T k) := by
  rw [List.find?_eq_some_iff_getElem]
  refine ⟨h1, k, hk, ?_, fun j hj => ?_⟩
  ·have := pZ hk
   rw [List.getElem?_eq_getElem hk] at this
   exact Option.some.inj this
  ·have e := pZ (T := T) (k := j) (by omega)
   rw [List.getElem?_eq_getElem (by omega)] at e
   rw [Option.some.inj e, h j hj]
   rfl
 rw [this]
theorem kK {A : List Sg} {T : List T4} (h : ∀ j, j < T.length → bC A (tA T j) = false) : dw A T = ((0, 0, 0, 0), 6) := by
 unfold dw
 have : T.find? (bC A) = none := by
  rw [List.find?_eq_none]
  intro x hx
  obtain ⟨j, hj, rfl⟩ := List.getElem_of_mem hx
  have e := pZ (T := T) (k := j) hj
  rw [List.getElem?_eq_getElem hj] at e
  rw [Option.some.inj e, h j hj]
  simp
 rw [this]
def eN (L : List St) (S : List D3) (ids : List Int) : T4 × Int :=
 if 400 < L.length ∨ 400 < S.length ∨ 400 < ids.length then ((0, 0, 0, 0), 2)
 else if aN L S ids = true then (if (ap L S ids ids.length).length < 2 then ((0, 0, 0, 0), 10) else dw (ap L S ids ids.length) (ax 625))
 else ((0, 0, 0, 0), 1)
theorem ow {L : List St} {S : List D3} {ids : List Int} (h : 400 < L.length ∨ 400 < S.length ∨ 400 < ids.length) : eN L S ids = ((0, 0, 0, 0), 2) := by unfold eN; rw [if_pos h]
theorem ov {L : List St} {S : List D3} {ids : List Int} (h : ¬ (400 < L.length ∨ 400 < S.length ∨ 400 < ids.length)) (h1 : aN L S ids = false) : eN L S ids = ((0, 0, 0, 0), 1) := by unfold eN; rw [if_neg h, h1]; rfl
theorem qs {L : List St} {S : List D3} {ids : List Int} (h : ¬ (400 < L.length ∨ 400 < S.length ∨ 400 < ids.length)) (h1 : aN L S ids = true) (h2 : (ap L S ids ids.length).length < 2) : eN L S ids = ((0, 0, 0, 0), 10) := by unfold eN; rw [if_neg h, if_pos h1, if_pos h2]
theorem jl {L : List St} {S : List D3} {ids : List Int} (h : ¬ (400 < L.length ∨ 400 < S.length ∨ 400 < ids.length)) (h1 : aN L S ids = true) (h2 : ¬ (ap L S ids ids.length).length < 2) : eN L S ids = dw (ap L S ids ids.length) (ax 625) := by unfold eN; rw [if_neg h, if_pos h1, if_neg h2]
theorem dJ {L : List St} {S : List D3} {ids : List Int} (h : aN L S ids = true) : aL L = true ∧ aM S = true ∧ ids.length = S.length ∧ dg (ap L S ids ids.length) (ap L S ids ids.length).length = true := by
 unfold aN at h
 simp only [Bool.and_eq_true, decide_eq_true_eq] at h
 exact ⟨h.1.1.1, h.1.1.2, h.1.2, h.2⟩
theorem rB {L : List St} {S : List D3} {ids : List Int} {n i : Nat} (hi : i < (ap L S ids n).length) : ∃ j, j < n ∧ ids.getD j 0 ≠ 0 ∧ sgA (ap L S ids n) i = aY L S ids j := by
 have hm : sgA (ap L S ids n) i ∈ ap L S ids n := by
  unfold sgA
  rw [List.getD_eq_getElem?_getD, List.getElem?_eq_getElem hi]
  exact List.getElem_mem hi
 generalize sgA (ap L S ids n) i = s at hm ⊢
 unfold ap at hm
 rw [List.mem_map] at hm
 obtain ⟨j, hj, rfl⟩ := hm
 rw [List.mem_filter] at hj
 exact ⟨j, List.mem_range.1 hj.1, of_decide_eq_true hj.2, rfl⟩
theorem ph {L : List St} {S : List D3} {ids : List Int} (h : aN L S ids = true) {i : Nat} (hi : i < (ap L S ids ids.length).length) : aH (sgA (ap L S ids ids.length) i).2.2.1 (sgA (ap L S ids ids.length) i).2.2.2.1 (sgA (ap L S ids ids.length) i).2.2.2.2 = true := by
 obtain ⟨h1, h2, h3, h4⟩ := dJ h
 unfold dg at h4
 have h5 := List.all_eq_true.1 h4 i (List.mem_range.2 hi)
 rw [Bool.and_eq_true] at h5
 obtain ⟨j, hj, h0, e⟩ := rB hi
 rw [e] at h5 ⊢
 exact iJ h1 (by have h6 := h5.1; rw [Bool.not_eq_true'] at h6; exact h6)
theorem pJ {L : List St} {S : List D3} {ids : List Int} (h : aN L S ids = true) {j : Nat} (hj : j < ids.length) (h0 : ids.getD j 0 ≠ 0) : aH (atV L L.length (ids.getD j 0)).1 (atV L L.length (ids.getD j 0)).2.1 (atV L L.length (ids.getD j 0)).2.2 = true ∧ ek (vA S j) = true := by
 obtain ⟨h1, h2, h3, h4⟩ := dJ h
 rw [← gm] at h4
 unfold bZ at h4
 have h5 := List.all_eq_true.1 h4 j (List.mem_range.2 hj)
 rw [decide_eq_false h0, Bool.false_or, Bool.and_eq_true] at h5
 exact ⟨iJ h1 (by simpa using h5.1), gn ((bc h2).2 j (by omega))⟩
def eF (L : List St) (S : List D3) (ids : List Int) (t : T4) (n : Nat) : Bool := (List.range n).all fun j => decide (ids.getD j 0 = 0) || bR t (aY L S ids j)
theorem jB (L : List St) (S : List D3) (ids : List Int) (t : T4) (n : Nat) : eF L S ids t n = bC (ap L S ids n) t := (iz L S ids (bR t) n).symm
theorem qb {L : List St} {S : List D3} {ids : List Int} {t : T4} {n j : Nat} (hj : j < n) (h : (decide (ids.getD j 0 = 0) || bR t (aY L S ids j)) = false) : eF L S ids t n = false := by
 unfold eF
 rw [List.all_eq_false]
 exact ⟨j, List.mem_range.2 hj, by rw [h]; simp⟩
theorem jS {L : List St} {S : List D3} {ids : List Int} {t : T4} {n : Nat} (h : ∀ j, j < n → (decide (ids.getD j 0 = 0) || bR t (aY L S ids j)) = true) : eF L S ids t n = true := by
 unfold eF
 rw [List.all_eq_true]
 exact fun j hj => h j (List.mem_range.1 hj)
theorem iW (L : List St) (S : List D3) (ids : List Int) (k : Nat) : (ap L S ids (k + 1)).length = (ap L S ids k).length + if ids.getD k 0 ≠ 0 then 1 else 0 := by
 rw [dL, List.length_append]
 split <;> rfl
theorem jU {m k : Nat} (hk : k < (ax m).length) : aC (tA (ax m) k).1 (tA (ax m) k).2.1 (tA (ax m) k).2.2.1 (tA (ax m) k).2.2.2 = true := by
 have hm : tA (ax m) k ∈ ax m := by unfold tA; rw [List.getD_eq_getElem?_getD, List.getElem?_eq_getElem hk]; exact List.getElem_mem hk
 generalize tA (ax m) k = t at hm ⊢
 unfold ax at hm
 exact (List.mem_filter.1 hm).2
theorem lO : 0 < (ax 625).length := by
 have h : (tOf 624).1 = 2 := by decide +kernel
 have hg : jJ (tOf 563) = true := by decide +kernel
 have hm : tOf 563 ∈ ax 625 := by
  unfold ax
  rw [List.mem_filter]
  exact ⟨List.mem_map.2 ⟨563, List.mem_range.2 (by omega), rfl⟩, hg⟩
 exact List.length_pos_of_mem hm
end
section
open Go.RowKit Go.Sort
theorem nf (A : List Sg) (n : Nat) (t : T4) (a : Option Addr) (c : Nat) (w : World) (hl : A.length = n) (hn : n ≤ 1048576) (ht : aC t.1 t.2.1 t.2.2.1 t.2.2.2 = true) (hsm : ∀ i, i < n → aH (sgA A i).2.2.1 (sgA A i).2.2.2.1 (sgA A i).2.2.2.2 = true) (hS : dv w a A n) :
  Calls Tryz.prog 42 #[.agg #[.int .i64 t.1, .int .i64 t.2.1, .int .i64 t.2.2.1, .int .i64 t.2.2.2], .slice a n c] w fun e w' => e = .returned (.bool (bC A t)) ∧ Below w.heap.size w w' := by
 have HNO : Hid (∀ i, i < n → bR t (sgA A i) = false → bC A t = false) := yz (fun i hi h => tf (by omega) h)
 have HYE : Hid ((∀ i, i < n → bR t (sgA A i) = true) → bC A t = true) := yz (fun h => rW (by rw [hl]; exact h))
 have HSM := yz hsm
 have HT := yz ht
 have HBR : Hid (∀ s, bR t s = aS s.1 (apD t.1 t.2.1 t.2.2.1 t.2.2.2 s.2.2)) := yz (fun s => rfl)
 clear hl hsm ht
 generalize bC A t = R at *
 generalize bR t = br at *
 obtain ⟨t1, t2, t3, t4⟩ := t
 simp only at HT HBR ⊢
 have V0 := yz (aT w t1 t2 t3 t4 34)
 have B0 := yz (ak w (.cells #[.int .i64 t1, .int .i64 t2, .int .i64 t3, .int .i64 t4] 34))
 rcases hS with rfl | ⟨b, o, rfl, hb, hc⟩
 ·have HY := yz (yy HYE (fun i hi => absurd hi (Nat.not_lt_zero _)))
  go_enter Tryz.func42, Tryz.ntmps42
  go_wp2_with fail
  refine wp_loop_rounds 1 ?_
  rw [rounds_succ]
  go_wp2_with fail
  go_ret
  exact ⟨by rw [yy HY]; rfl, yy B0⟩
 have HC := yz hc
 clear hc
 go_enter Tryz.func42, Tryz.ntmps42
 go_wp2_with fail
 go_loopw [9] (fun i wr => ∃ k : Nat, k ≤ n ∧ i = .int .i64 k ∧ Hid (∀ j, j < k → br (sgA A j) = true) ∧ Hid (Below w.heap.size w wr) ∧ Hid (aP wr w.heap.size t1 t2 t3 t4)) (fun i _ => n - (intOf i).toNat)
 case atStart => exact ⟨0, by omega, rfl, yz (fun j hj => absurd hj (Nat.not_lt_zero _)), B0, V0⟩
 case round =>
  clear B0 V0
  obtain ⟨k, hk, rfl, HF, HB, HV⟩ := hrel
  by_cases hkn : k < n
  ·have hkn2 : (k : Int) < (n : Int) := by omega
   have hsmk := yy HSM k hkn
   have HBK := yz (yy HBR (sgA A k))
   have HNK := yz (yy HNO k hkn)
   obtain ⟨s, hs⟩ : ∃ t, sgA A k = t := ⟨_, rfl⟩
   have hst := ((yy HC) k hkn).kept (yy HB)
   rw [hs] at hst hsmk HBK HNK
   have HSE := yz hs
   clear hs
   have cA := yz (fun W => jD t1 t2 t3 t4 s.2.2 W (yy HT) hsmk)
   clear hsmk
   have Z := ak wr (.cells #[.int .i64 s.1.1, .int .i64 s.1.2.1, .int .i64 s.1.2.2, .int .i64 s.2.1, .int .i64 s.2.2.1, .int .i64 s.2.2.2.1, .int .i64 s.2.2.2.2] 71)
   have T1 := dR wr s 71
   have HB1 := yz (aj (yy HB) Z)
   have HV1 := yz ((yy HV).kept (yy HV).lt Z)
   clear Z HB HV
   generalize apD t1 t2 t3 t4 s.2.2 = q at *
   obtain ⟨q1, q2, q3⟩ := q
   obtain ⟨⟨b1, b2, b3⟩, b4, b5, b6, b7⟩ := s
   have cS : Hid (∀ W : World, Calls Tryz.prog 38 #[.agg #[.int .i64 b1, .int .i64 b2, .int .i64 b3], .agg #[.int .i64 q1, .int .i64 q2, .int .i64 q3]] W fun e w' => e = .returned (.bool (aS (b1, b2, b3) (q1, q2, q3))) ∧ Below W.heap.size W w') := yz (fun W => fd b1 b2 b3 q1 q2 q3 W)
   simp only at HBK cA T1 HB1 HV1
   generalize aS (b1, b2, b3) (q1, q2, q3) = sm at *
   obtain ⟨c0, c1, c2, c3, c4, c5, c6⟩ := hst
   simp only at c0 c1 c2 c3 c4 c5 c6
   go_wp2_with fail
   clear c0 c1 c2 c3 c4 c5 c6
   generalize wr.alloc (.cells #[.int .i64 b1, .int .i64 b2, .int .i64 b3, .int .i64 b4, .int .i64 b5, .int .i64 b6, .int .i64 b7] 71) = W4 at T1 HB1 HV1 ⊢
   generalize wr.heap.size = tb at *
   obtain ⟨x0, x1, x2, x3, x4, x5, x6⟩ := T1
   simp only [Nat.zero_add] at x0 x1 x2 x3 x4 x5 x6
   obtain ⟨y0, y1, y2, y3⟩ := yy HV1
   have r0 := cell_regrown x0
   have r1 := cell_regrown x1
   have r2 := cell_regrown x2
   have r4 := cell_regrown x4
   have r5 := cell_regrown x5
   have r6 := cell_regrown x6
   have s0 := cell_regrown y0
   have s1 := cell_regrown y1
   have s2 := cell_regrown y2
   have s3 := cell_regrown y3
   clear x0 x1 x2 x3 x4 x5 x6 y0 y1 y2 y3
   refine wp_region_quiet_below (by kernel_rfl) (by kernel_rfl) ?_
   repeat (go_big_quiet_step (first | (with_reducible exact Calls.regrown_of (yy cA _)) | (with_reducible exact Calls.regrown_of (yy cS _))))
   refine wpQuiet_nil ?_
   intro _ hw'
   obtain ⟨⟨dq, osq⟩, hw''⟩ := hw'
   subst hw''
   have hx := below_regrown W4 dq osq
   have HB5 := yz (aj (yy HB1) hx)
   have HV5 := yz ((yy HV1).kept (yy HV1).lt hx)
   generalize grow (redrawn W4 dq) osq = W5 at hx HB5 HV5 ⊢
   clear hx r0 r1 r2 r4 r5 r6 s0 s1 s2 s3 cA cS HB1 HV1
   cases sm
   ·have HN := yz (yy HNK (yy HBK))
    go_wp2_with fail
    go_ret
    exact ⟨by rw [yy HN]; rfl, yy HB5⟩
   ·have HOK : Hid (br (sgA A k) = true) := yz (by rw [yy HSE]; exact yy HBK)
    go_wp2_with fail
    go_roundw
    case rel => exact ⟨k + 1, by omega, by go_num, yz (fun l hl => by
     by_cases e : l = k
     ·rw [e]; exact yy HOK
     ·exact yy HF l (by omega)), HB5, HV5⟩
    case measure => simp [intOf]; omega
  ·have hkn' : k = n := by omega
   subst hkn'
   have HY := yz (yy HYE (yy HF))
   go_wp2_with fail
   go_ret
   exact ⟨by rw [yy HY]; rfl, yy HB⟩
def rt (r : T4 × Int) : Value := .agg #[.int .i64 r.1.1, .int .i64 r.1.2.1, .int .i64 r.1.2.2.1, .int .i64 r.1.2.2.2, .int .i64 r.2]
theorem bV {w w1 : World} {b : Nat} (h : Below w.heap.size w w1) (hb : w.heap.size ≤ b) (x y z u v : Value) : Below w.heap.size w (((((w1.setCell ⟨b, 0, none⟩ x).setCell ⟨b, 1, none⟩ y).setCell ⟨b, 2, none⟩ z).setCell ⟨b, 3, none⟩ u).setCell ⟨b, 4, none⟩ v) := ((((h.setCell hb _).setCell hb _).setCell hb _).setCell hb _).setCell hb _
theorem fP (L : List St) (S : List D3) (ids : List Int) (ar br ir : Option Addr) (cr dr er : Nat) (p : Addr) (w : World) (hn : L.length ≤ 1048576) (hcap : L.length ≤ cr) (hc9 : cr ≤ 9223372036854775807) (hn2 : S.length ≤ 1048576) (hcap2 : S.length ≤ dr) (hd9 : dr ≤ 9223372036854775807) (hn3 : ids.length ≤ 1048576) (hS : aJ w ar L L.length) (hD : bi w br S S.length) (hI : bF w ir ids ids.length) (hE : bg p w) :
  Calls Tryz.prog 16 #[.slice ar L.length cr, .slice br S.length dr, .slice ir ids.length er] w fun e w' => e = .returned (rt (eN L S ids)) ∧ Below w.heap.size w w' := by
 have cN := yz (fun (W : World) h1 h2 h3 h4 => ec L S ids ar br ir cr dr er p W hn hcap hc9 hn2 hcap2 hd9 hn3 h1 h2 h3 h4)
 have cO : Hid (aN L S ids = true → ∀ W : World, aJ W ar L L.length → bi W br S S.length → bF W ir ids ids.length → bg p W → Calls Tryz.prog 34 #[.slice ar L.length cr, .slice br S.length dr, .slice ir ids.length er] W fun e w' => (∃ v, e = .returned v ∧ w'.ownsRow W.heap.size 71 7 v (ap L S ids ids.length).length (bG (ap L S ids ids.length))) ∧ Below W.heap.size W w') := yz (fun h W h1 h2 h3 h4 => by
  obtain ⟨g1, g2, g3, _⟩ := dJ h
  exact iV L S ids ids.length ar br ir cr dr er p W g1 hn hcap hc9 (bc g2).1 g3 h1 h2 h3 h4)
 have HSM : Hid (aN L S ids = true → ∀ i, i < (ap L S ids ids.length).length → aH (sgA (ap L S ids ids.length) i).2.2.1 (sgA (ap L S ids ids.length) i).2.2.2.1 (sgA (ap L S ids ids.length) i).2.2.2.2 = true) := yz (fun h i hi => ph h hi)
 have HAL : Hid (aN L S ids = true → (ap L S ids ids.length).length ≤ 6) := yz (fun h => by
  obtain ⟨g1, g2, g3, _⟩ := dJ h
  have := eU L S ids ids.length
  have := (bc g2).1
  omega)
 have H1 : Hid (400 < L.length ∨ 400 < S.length ∨ 400 < ids.length → eN L S ids = ((0, 0, 0, 0), 2)) := yz ow
 have H2 : Hid (¬ (400 < L.length ∨ 400 < S.length ∨ 400 < ids.length) → aN L S ids = false → eN L S ids = ((0, 0, 0, 0), 1)) := yz ov
 have H3 : Hid (¬ (400 < L.length ∨ 400 < S.length ∨ 400 < ids.length) → aN L S ids = true → (ap L S ids ids.length).length < 2 → eN L S ids = ((0, 0, 0, 0), 10)) := yz qs
 have H4 : Hid (¬ (400 < L.length ∨ 400 < S.length ∨ 400 < ids.length) → aN L S ids = true → ¬ (ap L S ids ids.length).length < 2 → eN L S ids = dw (ap L S ids ids.length) (ax 625)) := yz jl
 have HS := yz hS
 have HD := yz hD
 have HI := yz hI
 have HE := yz hE
 clear hS hD hI hE hcap hc9 hcap2 hd9
 generalize eN L S ids = R at *
 generalize aN L S ids = nb at *
 generalize ap L S ids ids.length = A at *
 generalize S.length = m at *
 generalize ids.length = k at *
 generalize L.length = n at *
 have R0 := aO w [.int .i64 0, .int .i64 0, .int .i64 0, .int .i64 0, .int .i64 0] 42
 have B0 := ak w (.cells #[.int .i64 0, .int .i64 0, .int .i64 0, .int .i64 0, .int .i64 0] 42)
 by_cases hbig : 400 < n ∨ 400 < m ∨ 400 < k
 ·obtain rfl := yy H1 hbig
  have h' : 400 < n ∨ (¬ 400 < n ∧ 400 < m) ∨ (¬ 400 < n ∧ ¬ 400 < m ∧ 400 < k) := by omega
  rcases h' with h | ⟨h, h1⟩ | ⟨h, h1, h2⟩
  ·have g1 : decide ((400 : Int) < (n : Int)) = true := by simp; omega
   have g2 : (400 : Int) < (n : Int) := by omega
   go_enter Tryz.func16, Tryz.ntmps16
   go_wp2_with fail
   exact bodyPost_ret (v := .agg #[.int .i64 0, .int .i64 0, .int .i64 0, .int .i64 0, .int .i64 2]) (by simp [results, Tryz.results16, go_sem]) rfl ⟨rfl, ak _ _⟩
  ·have g1 : decide ((400 : Int) < (n : Int)) = false := by simp; omega
   have g2 : ¬ (400 : Int) < (n : Int) := by omega
   have g3 : decide ((400 : Int) < (m : Int)) = true := by simp; omega
   have g4 : (400 : Int) < (m : Int) := by omega
   go_enter Tryz.func16, Tryz.ntmps16
   go_wp2_with fail
   exact bodyPost_ret (v := .agg #[.int .i64 0, .int .i64 0, .int .i64 0, .int .i64 0, .int .i64 2]) (by simp [results, Tryz.results16, go_sem]) rfl ⟨rfl, ak _ _⟩
  ·have g1 : decide ((400 : Int) < (n : Int)) = false := by simp; omega
   have g2 : ¬ (400 : Int) < (n : Int) := by omega
   have g3 : decide ((400 : Int) < (m : Int)) = false := by simp; omega
   have g4 : ¬ (400 : Int) < (m : Int) := by omega
   have g5 : decide ((400 : Int) < (k : Int)) = true := by simp; omega
   have g6 : (400 : Int) < (k : Int) := by omega
   go_enter Tryz.func16, Tryz.ntmps16
   go_wp2_with fail
   exact bodyPost_ret (v := .agg #[.int .i64 0, .int .i64 0, .int .i64 0, .int .i64 0, .int .i64 2]) (by simp [results, Tryz.results16, go_sem]) rfl ⟨rfl, ak _ _⟩
 have g1 : decide ((400 : Int) < (n : Int)) = false := by simp; omega
 have g2 : ¬ (400 : Int) < (n : Int) := by omega
 have g3 : decide ((400 : Int) < (m : Int)) = false := by simp; omega
 have g4 : ¬ (400 : Int) < (m : Int) := by omega
 have g5 : decide ((400 : Int) < (k : Int)) = false := by simp; omega
 have g6 : ¬ (400 : Int) < (k : Int) := by omega
 go_enter Tryz.func16, Tryz.ntmps16
 go_wp2_with fail
 generalize w.alloc (.cells #[.int .i64 0, .int .i64 0, .int .i64 0, .int .i64 0, .int .i64 0] 42) = W0 at R0 B0 ⊢
 refine (yy cN _ ((yy HS).kept B0) ((yy HD).kept B0) ((yy HI).kept B0) ((yy HE).kept B0)).mono ?_
 rintro e W1 ⟨rfl, hx⟩
 have R1 := R0.kept hx
 have B1 := aj B0 hx
 clear hx R0 B0
 cases nb
 ·obtain rfl := yy H2 hbig rfl
  obtain ⟨r0, r1, r2, r3, r4⟩ := kD (R1)
  obtain ⟨f0, f1, f2, f3, f4⟩ := mW (R1)
  go_wp2_with fail
  exact bodyPost_ret (v := .agg #[.int .i64 0, .int .i64 0, .int .i64 0, .int .i64 0, .int .i64 1]) (by simp [results, Tryz.results16, go_sem, r0, r1, r2, r3, r4]) rfl ⟨rfl, bV B1 (Nat.le_refl _) _ _ _ _ _⟩
 have cO' := yz (yy cO rfl)
 have HSM' := yz (yy HSM rfl)
 have hal6 := yy HAL rfl
 have H3' := yz (yy H3 hbig rfl)
 have H4' := yz (yy H4 hbig rfl)
 clear cO HSM HAL H1 H2 H3 H4 cN hbig g1 g2 g3 g4 g5 g6
 go_wp2_with fail
 refine (yy cO' _ ((yy HS).kept B1) ((yy HD).kept B1) ((yy HI).kept B1) ((yy HE).kept B1)).mono ?_
 rintro e W2 ⟨⟨v2, rfl, ho⟩, hx⟩
 obtain ⟨a2, c2, rfl⟩ := sB ho
 have HSG := yz (iA ho)
 have R2 := R1.kept hx
 have B2 := aj B1 hx
 clear ho hx R1 B1 cO'
 by_cases h2 : A.length < 2
 ·obtain rfl := yy H3' h2
  have h2' : (A.length : Int) < 2 := by omega
  obtain ⟨r0, r1, r2, r3, r4⟩ := kD (R2)
  obtain ⟨f0, f1, f2, f3, f4⟩ := mW (R2)
  go_wp2_with fail
  exact bodyPost_ret (v := .agg #[.int .i64 0, .int .i64 0, .int .i64 0, .int .i64 0, .int .i64 10]) (by simp [results, Tryz.results16, go_sem, r0, r1, r2, r3, r4]) rfl ⟨rfl, bV B2 (Nat.le_refl _) _ _ _ _ _⟩
 have h2' : ¬ (A.length : Int) < 2 := by omega
 have HR := yz (yy H4' h2)
 have cT : Hid (∀ W : World, Calls Tryz.prog 41 #[] W fun e w' => ∃ g c, e = .returned (.slice (some ⟨g, 0, none⟩) (ax 625).length c) ∧ fU w' g (ax 625) ∧ Below W.heap.size W w') := yz (fun W => (lQ W).mono fun e w' h => by
  obtain ⟨⟨v, he, ho⟩, hb⟩ := h
  obtain ⟨g, c, rfl, hg, ht⟩ := mQ ho lO
  exact ⟨g, c, he, ht, hb⟩)
 have HTR : Hid (∀ k, k < (ax 625).length → aC (tA (ax 625) k).1 (tA (ax 625) k).2.1 (tA (ax 625) k).2.2.1 (tA (ax 625) k).2.2.2 = true) := yz (fun k hk => jU hk)
 have hTL := gR 625
 have cE : Hid (∀ (t : T4) (a : Option Addr) (W : World), aC t.1 t.2.1 t.2.2.1 t.2.2.2 = true → dv W a A A.length → Calls Tryz.prog 42 #[.agg #[.int .i64 t.1, .int .i64 t.2.1, .int .i64 t.2.2.1, .int .i64 t.2.2.2], .slice a A.length c2] W fun e w' => e = .returned (.bool (bC A t)) ∧ Below W.heap.size W w') := yz (fun t a W ht hs => nf A A.length t a c2 W rfl (by omega) ht (yy HSM') hs)
 clear HSM' H3' H4' h2
 have HF1 : Hid (∀ k, k < (ax 625).length → (∀ j, j < k → bC A (tA (ax 625) j) = false) → bC A (tA (ax 625) k) = true → dw A (ax 625) = (tA (ax 625) k, 0)) := yz (fun k hk h h1 => oq hk h h1)
 have HF2 : Hid ((∀ j, j < (ax 625).length → bC A (tA (ax 625) j) = false) → dw A (ax 625) = ((0, 0, 0, 0), 6)) := yz kK
 generalize ax 625 = T at *
 generalize hlt : T.length = tn at *
 have HTL := yz hlt
 clear hlt
 generalize A.length = al at *
 go_wp2_with fail
 refine (yy cT _).mono ?_
 rintro e W3 ⟨g, c3, rfl, ht, hx⟩
 have HT3 := yz ht
 have HS3 := yz ((yy HSG).kept hx)
 have HR3 := yz (R2.kept hx)
 have HB3 := yz (aj B2 hx)
 clear ht hx R2 B2 HSG cT
 go_wp2_with fail
 go_loopw [40] (fun i wr => ∃ j : Nat, j ≤ tn ∧ i = .int .i64 j ∧ Hid (∀ l, l < j → bC A (tA T l) = false) ∧ Hid (fU wr g T) ∧ Hid (dv wr a2 A al) ∧ Hid (Blk wr w.heap.size [.int .i64 0, .int .i64 0, .int .i64 0, .int .i64 0, .int .i64 0] 42) ∧ Hid (Below w.heap.size w wr)) (fun i _ => tn - (intOf i).toNat)
 case atStart => exact ⟨0, by omega, rfl, yz (fun j hj => absurd hj (Nat.not_lt_zero _)), HT3, HS3, HR3, HB3⟩
 case round =>
  clear HT3 HS3 HR3 HB3
  obtain ⟨j, hj, rfl, HF, HT, HS', HRB, HB⟩ := hrel
  by_cases hjn : j < tn
  ·have hjn2 : (j : Int) < (tn : Int) := by omega
   obtain ⟨c0, c1, c2', c3'⟩ := (yy HT).2 j (by rw [yy HTL]; exact hjn)
   have htr := yy HTR j hjn
   have HF1j := yz (yy HF1 j hjn (yy HF))
   obtain ⟨t, ht⟩ : ∃ t, tA T j = t := ⟨_, rfl⟩
   rw [ht] at c0 c1 c2' c3' htr HF1j
   have HTE := yz ht
   clear ht
   have cEt := yz (fun W h => yy cE t a2 W htr h)
   clear htr
   have HEX : Hid (bC A (tA T j) = bC A t) := yz (by rw [yy HTE])
   generalize bC A t = ev at *
   obtain ⟨t1, t2, t3, t4⟩ := t
   simp only at c0 c1 c2' c3' cEt
   have Z := ak wr (.cells #[.int .i64 t1, .int .i64 t2, .int .i64 t3, .int .i64 t4] 34)
   have TA1 := yz (aT wr t1 t2 t3 t4 34)
   have HT1 := yz ((yy HT).kept Z)
   have HS1 := yz ((yy HS').kept Z)
   have HR1 := yz ((yy HRB).kept Z)
   have HB1 := yz (aj (yy HB) Z)
   clear Z HT HS' HRB HB
   go_wp2_with fail
   clear c0 c1 c2' c3'
   generalize wr.alloc (.cells #[.int .i64 t1, .int .i64 t2, .int .i64 t3, .int .i64 t4] 34) = W4 at TA1 HT1 HS1 HR1 HB1 ⊢
   generalize wr.heap.size = tb at *
   refine (yy cEt _ (yy HS1)).mono ?_
   rintro e W5 ⟨rfl, hx⟩
   have TA2 := yz ((yy TA1).kept (yy TA1).lt hx)
   have HT2 := yz ((yy HT1).kept hx)
   have HS2 := yz ((yy HS1).kept hx)
   have HR2 := yz ((yy HR1).kept hx)
   have HB2 := yz (aj (yy HB1) hx)
   clear hx TA1 HT1 HS1 HR1 HB1 cEt
   cases ev
   ·go_wp2_with fail
    go_roundw
    case rel => exact ⟨j + 1, by omega, by go_num, yz (fun l hl => by
     by_cases e : l = j
     ·rw [e]; exact yy HEX
     ·exact yy HF l (by omega)), HT2, HS2, HR2, HB2⟩
    case measure => simp [intOf]; omega
   ·have HRV : Hid (R = ((t1, t2, t3, t4), 0)) := yz (by rw [yy HR]; exact yy HF1j rfl)
    obtain ⟨x0, x1, x2, x3⟩ := yy TA2
    obtain ⟨r0, r1, r2, r3, r4⟩ := kD (yy HR2)
    obtain ⟨f0, f1, f2, f3, f4⟩ := mW (yy HR2)
    go_wp2_with fail
    exact bodyPost_ret (v := .agg #[.int .i64 t1, .int .i64 t2, .int .i64 t3, .int .i64 t4, .int .i64 0]) (by simp [results, Tryz.results16, go_sem, r0, r1, r2, r3, r4]) rfl ⟨by rw [yy HRV]; rfl, bV (yy HB2) (Nat.le_refl _) _ _ _ _ _⟩
  ·have hjn' : j = tn := by omega
   subst hjn'
   have HRV : Hid (R = ((0, 0, 0, 0), 6)) := yz (by rw [yy HR]; exact yy HF2 (yy HF))
   obtain ⟨r0, r1, r2, r3, r4⟩ := kD (yy HRB)
   obtain ⟨f0, f1, f2, f3, f4⟩ := mW (yy HRB)
   go_wp2_with fail
   exact bodyPost_ret (v := .agg #[.int .i64 0, .int .i64 0, .int .i64 0, .int .i64 0, .int .i64 6]) (by simp [results, Tryz.results16, go_sem, r0, r1, r2, r3, r4]) rfl ⟨by rw [yy HRV]; rfl, bV (yy HB) (Nat.le_refl _) _ _ _ _ _⟩
def eW (L : List St) (S : List D3) (ids : List Int) (t : T4) (n : Nat) : Prop := ∀ j, j < n → (decide (ids.getD j 0 = 0) || bR t (aY L S ids j)) = true
theorem lZ {L : List St} {S : List D3} {ids : List Int} {t : T4} {n : Nat} (h : eW L S ids t n) (h1 : (decide (ids.getD n 0 = 0) || bR t (aY L S ids n)) = true) : eW L S ids t (n + 1) := fun l hl => by
 by_cases e : l = n
 ·rw [e]; exact h1
 ·exact h l (by omega)
theorem lT (L : List St) (S : List D3) (ids : List Int) (t : T4) (k : Nat) (ar br ir : Option Addr) (cr dr er : Nat) (w : World) (hk6 : k ≤ 6) (hn : L.length ≤ 12) (ht : aC t.1 t.2.1 t.2.2.1 t.2.2.2 = true) (hS : aJ w ar L L.length) (hD : bi w br S k) (hI : bF w ir ids k)
  (hids : ∀ i, i < k → ids.getD i 0 ≠ 0 → aH (atV L L.length (ids.getD i 0)).1 (atV L L.length (ids.getD i 0)).2.1 (atV L L.length (ids.getD i 0)).2.2 = true ∧ ek (vA S i) = true) :
  Calls Tryz.prog 78 #[.slice ar L.length cr, .slice br k dr, .slice ir k er, .agg #[.int .i64 t.1, .int .i64 t.2.1, .int .i64 t.2.2.1, .int .i64 t.2.2.2]] w fun e w' => e = .returned (.bool (eF L S ids t k)) ∧ Below w.heap.size w w' := by
 have cA := yz (fun (W : World) (q : Int) hW => gD L L.length q ar cr W (by omega) hW)
 have HNO : Hid (∀ i, i < k → (decide (ids.getD i 0 = 0) || bR t (aY L S ids i)) = false → eF L S ids t k = false) := yz (fun i hi h => qb hi h)
 have HYE : Hid (eW L S ids t k → eF L S ids t k = true) := yz (fun h => jS h)
 have HST : Hid (∀ n, eW L S ids t n → (decide (ids.getD n 0 = 0) || bR t (aY L S ids n)) = true → eW L S ids t (n + 1)) := yz (fun n h h1 => lZ h h1)
 have H0 : Hid (eW L S ids t 0) := yz (fun j hj => absurd hj (Nat.not_lt_zero _))
 have HBR : Hid (∀ i, bR t (aY L S ids i) = aS (vA S i) (apD t.1 t.2.1 t.2.2.1 t.2.2.2 (atV L L.length (ids.getD i 0)))) := yz (fun i => rfl)
 have HDS := yz hids
 have HT := yz ht
 have HS := yz hS
 have HD := yz hD
 clear hS hD hids ht
 generalize eF L S ids t k = R at *
 generalize eW L S ids t = TT at *
 generalize bR t = br' at *
 obtain ⟨t1, t2, t3, t4⟩ := t
 simp only at HT HBR ⊢
 generalize L.length = n at *
 have V0 := yz (aT w t1 t2 t3 t4 34)
 have B0 := yz (ak w (.cells #[.int .i64 t1, .int .i64 t2, .int .i64 t3, .int .i64 t4] 34))
 rcases hI with rfl | ⟨ib, io, rfl, hib, hic⟩
 ·have HY := yz (yy HYE (yy H0))
  go_enter Tryz.func78, Tryz.ntmps78
  go_wp2_with fail
  refine wp_loop_rounds 1 ?_
  rw [rounds_succ]
  go_wp2_with fail
  go_ret
  exact ⟨by rw [yy HY]; rfl, yy B0⟩
 have HIC := yz hic
 clear hic
 go_enter Tryz.func78, Tryz.ntmps78
 go_wp2_with fail
 go_loopw [9] (fun kk wr => ∃ i : Nat, i ≤ k ∧ kk = .int .i64 i ∧ Hid (TT i) ∧ Hid (aP wr w.heap.size t1 t2 t3 t4) ∧ Hid (Below w.heap.size w wr)) (fun kk _ => k - (intOf kk).toNat)
 case atStart => exact ⟨0, by omega, rfl, H0, V0, B0⟩
 case round =>
  clear V0 B0
  obtain ⟨i, hi, rfl, HF, HV, HB⟩ := hrel
  by_cases hik : i < k
  ·have hik2 : (i : Int) < (k : Int) := by omega
   have ci : wr.cell? ⟨ib, io + i, none⟩ = some (.int .i64 (ids.getD i 0)) := by rw [(yy HB).cell (p := ⟨ib, io + i, none⟩) hib]; exact yy HIC i hik
   have HSTi := yz (yy HST i (yy HF))
   have HNOi := yz (yy HNO i hik)
   have hds := yy HDS i hik
   rw [yy HBR i] at HSTi HNOi
   generalize ids.getD i 0 = x at *
   by_cases hx0 : x = 0
   ·subst hx0
    have HF2 := yz (yy HSTi rfl)
    have ri := cell_regrown ci
    clear ci
    have hnz : ((0 : Int) == 0) = true := rfl
    have hnz2 : decide ((0 : Int) ≠ 0) = false := by decide
    go_wp2_with fail
    refine wp_region_quiet_below (by kernel_rfl) (by kernel_rfl) ?_
    repeat (go_big_quiet_step (fail))
    refine wpQuiet_nil ?_
    intro _ hw'
    obtain ⟨⟨dq, osq⟩, hw''⟩ := hw'
    subst hw''
    have hx := below_regrown wr dq osq
    have HB5 := yz (aj (yy HB) hx)
    have HV5 := yz ((yy HV).kept (yy HV).lt hx)
    generalize grow (redrawn wr dq) osq = W5 at hx HB5 HV5 ⊢
    clear hx ri HB HV
    go_wp2_with fail
    go_roundw
    case rel => exact ⟨i + 1, by omega, by go_num, HF2, HV5, HB5⟩
    case measure => simp [intOf] <;> omega
   have hx0' : (x == 0) = false := by simp [hx0]
   have hx1' : (x != 0) = true := by simp [hx0]
   obtain ⟨hsm, hwd⟩ := hds hx0
   rw [decide_eq_false hx0, Bool.false_or] at HSTi HNOi
   have cAx := yz (fun (W : World) hW => yy cA W x hW)
   rcases yy HD with h | ⟨bb, bo, rfl, hbb, hbc⟩
   ·omega
   have hsp := (hbc i hik).kept hbb (yy HB)
   clear hbc
   generalize vA S i = sv at *
   generalize atV L n x = q at *
   have cP := yz (fun W => gj t1 t2 t3 t4 q W (yy HT) hsm)
   have cQ := yz (fun W => gh (apD t1 t2 t3 t4 q) sv W (ip (yy HT) hsm) (je hwd))
   clear hds hsm hwd
   generalize aS sv (apD t1 t2 t3 t4 q) = sm at *
   generalize apD t1 t2 t3 t4 q = r at *
   obtain ⟨q1, q2, q3⟩ := q
   obtain ⟨r1, r2, r3⟩ := r
   obtain ⟨v1, v2, v3⟩ := sv
   unfold mb at cAx
   simp only at cAx cP cQ
   obtain ⟨c0, c1, c2⟩ := hsp
   simp only at c0 c1 c2
   obtain ⟨y0, y1, y2, y3⟩ := yy HV
   have ri := cell_regrown ci
   have rc0 := cell_regrown c0
   have rc1 := cell_regrown c1
   have rc2 := cell_regrown c2
   have ry0 := cell_regrown y0
   have ry1 := cell_regrown y1
   have ry2 := cell_regrown y2
   have ry3 := cell_regrown y3
   clear ci c0 c1 c2 y0 y1 y2 y3
   have HS1 := yz ((yy HS).kept (yy HB))
   go_wp2_with fail
   refine wp_region_quiet_below (by kernel_rfl) (by kernel_rfl) ?_
   repeat (go_big_quiet_step (first | (with_reducible exact Calls.regrown_of (yy cAx _ ((yy HS1).kept (below_regrown _ _ _)))) | (with_reducible exact Calls.regrown_of (yy cP _)) | (with_reducible exact Calls.regrown_of (yy cQ _))))
   refine wpQuiet_nil ?_
   intro _ hw'
   obtain ⟨⟨dq, osq⟩, hw''⟩ := hw'
   subst hw''
   have hx := below_regrown wr dq osq
   have HB5 := yz (aj (yy HB) hx)
   have HV5 := yz ((yy HV).kept (yy HV).lt hx)
   generalize grow (redrawn wr dq) osq = W5 at hx HB5 HV5 ⊢
   clear hx ri rc0 rc1 rc2 ry0 ry1 ry2 ry3 cAx cP cQ HB HV HS1
   cases sm
   ·have HN := yz (yy HNOi rfl)
    go_wp2_with fail
    go_ret
    exact ⟨by rw [yy HN]; rfl, yy HB5⟩
   ·have HF2 := yz (yy HSTi rfl)
    go_wp2_with fail
    go_roundw
    case rel => exact ⟨i + 1, by omega, by go_num, HF2, HV5, HB5⟩
    case measure => simp [intOf] <;> omega
  ·have hik' : i = k := by omega
   subst hik'
   have HY := yz (yy HYE (yy HF))
   go_wp2_with fail
   go_ret
   exact ⟨by rw [yy HY]; rfl, yy HB⟩
def mY (ids : List Int) : Nat → Nat
 | 0 => 0
 | k + 1 => mY ids k + if ids.getD k 0 ≠ 0 then 1 else 0
theorem qj (L : List St) (S : List D3) (ids : List Int) : ∀ k, mY ids k = (ap L S ids k).length
 | 0 => rfl
 | k + 1 => by
  have ih := qj L S ids k
  show mY ids k + (if ids.getD k 0 ≠ 0 then 1 else 0) = _
  rw [iW, ih]
theorem qk (ids : List Int) : ∀ k, mY ids k ≤ k
 | 0 => Nat.le_refl _
 | k + 1 => by
  have ih := qk ids k
  show mY ids k + (if ids.getD k 0 ≠ 0 then 1 else 0) ≤ k + 1
  split <;> omega
theorem pG (L : List St) (S : List D3) (ids : List Int) (ar br ir : Option Addr) (cr dr er : Nat) (w : World) (hN : aN L S ids = true) (hS : aJ w ar L L.length) (hD : bi w br S S.length) (hI : bF w ir ids ids.length) :
  Calls Tryz.prog 43 #[.slice ar L.length cr, .slice br S.length dr, .slice ir ids.length er] w fun e w' => e = .returned (rt (if (ap L S ids ids.length).length < 2 then ((0, 0, 0, 0), 10) else dw (ap L S ids ids.length) (ax 625))) ∧ Below w.heap.size w w' := by
 obtain ⟨g1, g2, g3, _⟩ := dJ hN
 have hm6 := (bc g2).1
 have hn12 := (bm g1).1
 have cU : Hid (∀ (t : T4) (W : World), aC t.1 t.2.1 t.2.2.1 t.2.2.2 = true → aJ W ar L L.length → bi W br S ids.length → bF W ir ids ids.length → Calls Tryz.prog 78 #[.slice ar L.length cr, .slice br ids.length dr, .slice ir ids.length er, .agg #[.int .i64 t.1, .int .i64 t.2.1, .int .i64 t.2.2.1, .int .i64 t.2.2.2]] W fun e w' => e = .returned (.bool (bC (ap L S ids ids.length) t)) ∧ Below W.heap.size W w') := yz (fun t W ht h1 h2 h3 => by
  rw [← jB]
  exact lT L S ids t ids.length ar br ir cr dr er W (by omega) hn12 ht h1 h2 h3 (fun i hi h0 => pJ hN hi h0))
 have HCE := yz (qj L S ids ids.length)
 have cT : Hid (∀ W : World, Calls Tryz.prog 77 #[] W fun e w' => ∃ g c, e = .returned (.slice (some ⟨g, 0, none⟩) (ax 625).length c) ∧ fU w' g (ax 625) ∧ Below W.heap.size W w') := yz (fun W => (lY W).mono fun e w' h => by
  obtain ⟨⟨v, he, ho⟩, hb⟩ := h
  obtain ⟨g, c, rfl, hg, ht⟩ := mQ ho lO
  exact ⟨g, c, he, ht, hb⟩)
 have HTR : Hid (∀ k, k < (ax 625).length → aC (tA (ax 625) k).1 (tA (ax 625) k).2.1 (tA (ax 625) k).2.2.1 (tA (ax 625) k).2.2.2 = true) := yz (fun k hk => jU hk)
 have hTL := gR 625
 have HS := yz hS
 have HD := yz hD
 clear hS hD hN g1 g2
 rw [← g3] at HD hm6
 rw [← g3]
 clear g3
 generalize ap L S ids ids.length = A at *
 have HF1 : Hid (∀ k, k < (ax 625).length → (∀ j, j < k → bC A (tA (ax 625) j) = false) → bC A (tA (ax 625) k) = true → dw A (ax 625) = (tA (ax 625) k, 0)) := yz (fun k hk h h1 => oq hk h h1)
 have HF2 : Hid ((∀ j, j < (ax 625).length → bC A (tA (ax 625) j) = false) → dw A (ax 625) = ((0, 0, 0, 0), 6)) := yz kK
 generalize ax 625 = T at *
 generalize hlt : T.length = tn at *
 have HTL := yz hlt
 clear hlt
 generalize L.length = n at *
 generalize A.length = al at *
 obtain ⟨RV, hRV⟩ : ∃ r, r = (if al < 2 then ((0, 0, 0, 0), 10) else dw A T) := ⟨_, rfl⟩
 rw [← hRV]
 have HRA : Hid (al < 2 → RV = ((0, 0, 0, 0), 10)) := yz (fun h => by rw [hRV, if_pos h])
 have HRB : Hid (¬ al < 2 → RV = dw A T) := yz (fun h => by rw [hRV, if_neg h])
 clear hRV
 have HI := yz hI
 clear hI
 generalize ids.length = k at *
 have R0 := yz (aO w [.int .i64 0, .int .i64 0, .int .i64 0, .int .i64 0, .int .i64 0] 42)
 have B0 := yz (ak w (.cells #[.int .i64 0, .int .i64 0, .int .i64 0, .int .i64 0, .int .i64 0] 42))
 go_enter Tryz.func43, Tryz.ntmps43
 go_wp2_with fail
 generalize w.alloc (.cells #[.int .i64 0, .int .i64 0, .int .i64 0, .int .i64 0, .int .i64 0] 42) = W0 at R0 B0 ⊢
 go_loopw [7, 8] (fun c kk wr => ∃ i : Nat, i ≤ k ∧ kk = .int .i64 i ∧ c = .int .i64 (mY ids i : Int) ∧ wr = W0) (fun _ kk _ => k - (intOf kk).toNat)
 case atStart => exact ⟨0, by omega, rfl, rfl, rfl⟩
 case round =>
  obtain ⟨i, hi, rfl, rfl, rfl⟩ := hrel
  by_cases hik : i < k
  ·have hik2 : (i : Int) < (k : Int) := by omega
   rcases yy HI with h | ⟨ib, io, rfl, hib, hic⟩
   ·omega
   have ci : wr.cell? ⟨ib, io + i, none⟩ = some (.int .i64 (ids.getD i 0)) := by rw [(yy B0).cell (p := ⟨ib, io + i, none⟩) hib]; exact hic i hik
   clear hic
   have HCN : Hid (mY ids (i + 1) = mY ids i + if ids.getD i 0 ≠ 0 then 1 else 0) := yz rfl
   have hcl := qk ids i
   generalize ids.getD i 0 = x at *
   generalize hci : mY ids i = ct at *
   clear hci
   by_cases hx0 : x = 0
   ·subst hx0
    rw [if_neg (by simp)] at HCN
    go_wp2_with fail
    go_roundw
    case rel => exact ⟨i + 1, by omega, by go_num, by rw [yy HCN]; rfl, by first | rfl | trivial⟩
    case measure => simp [intOf] <;> omega
   ·have hx0' : (x == 0) = false := by simp [hx0]
    rw [if_pos hx0] at HCN
    go_wp2_with fail
    go_roundw
    case rel => exact ⟨i + 1, by omega, by go_num, by rw [yy HCN]; go_num, by first | rfl | trivial⟩
    case measure => simp [intOf] <;> omega
  ·have hik' : i = k := by omega
   subst hik'
   rw [yy HCE]
   clear HCE
   by_cases h2 : al < 2
   ·have h2' : (al : Int) < 2 := by omega
    have HRV := yz (yy HRA h2)
    obtain ⟨r0, r1, r2, r3, r4⟩ := kD (yy R0)
    obtain ⟨f0, f1, f2, f3, f4⟩ := mW (yy R0)
    go_wp2_with fail
    exact bodyPost_ret (v := .agg #[.int .i64 0, .int .i64 0, .int .i64 0, .int .i64 0, .int .i64 10]) (by simp [results, Tryz.results43, go_sem, r0, r1, r2, r3, r4]) rfl ⟨by rw [yy HRV]; rfl, bV (yy B0) (Nat.le_refl _) _ _ _ _ _⟩
   have h2' : ¬ (al : Int) < 2 := by omega
   have HR := yz (yy HRB h2)
   clear HRA HRB h2
   go_wp2_with fail
   refine (yy cT _).mono ?_
   rintro e W3 ⟨g, c3, rfl, ht, hx⟩
   have HT3 := yz ht
   have HR3 := yz ((yy R0).kept hx)
   have HB3 := yz (aj (yy B0) hx)
   clear ht hx R0 B0 cT
   go_wp2_with fail
   go_loopw [10] (fun kk wr => ∃ j : Nat, j ≤ tn ∧ kk = .int .i64 j ∧ Hid (∀ l, l < j → bC A (tA T l) = false) ∧ Hid (fU wr g T) ∧ Hid (Blk wr w.heap.size [.int .i64 0, .int .i64 0, .int .i64 0, .int .i64 0, .int .i64 0] 42) ∧ Hid (Below w.heap.size w wr)) (fun kk _ => tn - (intOf kk).toNat)
   case atStart => exact ⟨0, by omega, rfl, yz (fun j hj => absurd hj (Nat.not_lt_zero _)), HT3, HR3, HB3⟩
   case round =>
    clear HT3 HR3 HB3
    obtain ⟨j, hj, rfl, HF, HT, HRB, HB⟩ := hrel
    by_cases hjn : j < tn
    ·have hjn2 : (j : Int) < (tn : Int) := by omega
     obtain ⟨c0, c1, c2', c3'⟩ := (yy HT).2 j (by rw [yy HTL]; exact hjn)
     have htr := yy HTR j hjn
     have HF1j := yz (yy HF1 j hjn (yy HF))
     obtain ⟨t, ht⟩ : ∃ t, tA T j = t := ⟨_, rfl⟩
     rw [ht] at c0 c1 c2' c3' htr HF1j
     have HTE := yz ht
     clear ht
     have cEt := yz (fun W h1 h2 h3 => yy cU t W htr h1 h2 h3)
     clear htr
     have HEX : Hid (bC A (tA T j) = bC A t) := yz (by rw [yy HTE])
     generalize bC A t = ev at *
     obtain ⟨t1, t2, t3, t4⟩ := t
     simp only at c0 c1 c2' c3' cEt
     go_wp2_with fail
     refine (yy cEt _ ((yy HS).kept (yy HB)) ((yy HD).kept (yy HB)) ((yy HI).kept (yy HB))).mono ?_
     rintro e W5 ⟨rfl, hx⟩
     have HT2 := yz ((yy HT).kept hx)
     have HR2 := yz ((yy HRB).kept hx)
     have HB2 := yz (aj (yy HB) hx)
     have x0 := cu c0 hx
     have x1 := cu c1 hx
     have x2 := cu c2' hx
     have x3 := cu c3' hx
     clear hx HT HRB HB cEt c0 c1 c2' c3'
     cases ev
     ·clear x0 x1 x2 x3
      go_wp2_with fail
      go_roundw
      case rel => exact ⟨j + 1, by omega, by go_num, yz (fun l hl => by
       by_cases e : l = j
       ·rw [e]; exact yy HEX
       ·exact yy HF l (by omega)), HT2, HR2, HB2⟩
      case measure => simp [intOf]; omega
     ·have HRV : Hid (RV = ((t1, t2, t3, t4), 0)) := yz (by rw [yy HR]; exact yy HF1j rfl)
      obtain ⟨r0, r1, r2, r3, r4⟩ := kD (yy HR2)
      obtain ⟨f0, f1, f2, f3, f4⟩ := mW (yy HR2)
      go_wp2_with fail
      exact bodyPost_ret (v := .agg #[.int .i64 t1, .int .i64 t2, .int .i64 t3, .int .i64 t4, .int .i64 0]) (by simp [results, Tryz.results43, go_sem, r0, r1, r2, r3, r4]) rfl ⟨by rw [yy HRV]; rfl, bV (yy HB2) (Nat.le_refl _) _ _ _ _ _⟩
    ·have hjn' : j = tn := by omega
     subst hjn'
     have HRV : Hid (RV = ((0, 0, 0, 0), 6)) := yz (by rw [yy HR]; exact yy HF2 (yy HF))
     obtain ⟨r0, r1, r2, r3, r4⟩ := kD (yy HRB)
     obtain ⟨f0, f1, f2, f3, f4⟩ := mW (yy HRB)
     go_wp2_with fail
     exact bodyPost_ret (v := .agg #[.int .i64 0, .int .i64 0, .int .i64 0, .int .i64 0, .int .i64 6]) (by simp [results, Tryz.results43, go_sem, r0, r1, r2, r3, r4]) rfl ⟨by rw [yy HRV]; rfl, bV (yy HB) (Nat.le_refl _) _ _ _ _ _⟩
theorem kj (L : List St) (S : List D3) (ids : List Int) (ar br ir : Option Addr) (cr dr er : Nat) (w : World) (hn : L.length ≤ 1048576) (hn2 : S.length ≤ 1048576) (hn3 : ids.length ≤ 1048576) (hd : S.length ≤ dr) (he : ids.length ≤ er) (hS : aJ w ar L L.length) (hD : bi w br S S.length) (hI : bF w ir ids ids.length) :
  Calls Tryz.prog 17 #[.slice ar L.length cr, .slice br S.length dr, .slice ir ids.length er] w fun e w' => e = .returned (rt (eN L S ids)) ∧ Below w.heap.size w w' := by
 have cN := yz (fun (W : World) h1 h2 h3 => il L S ids ar br ir cr dr er W hn hn2 hn3 hd he h1 h2 h3)
 have cO : Hid (¬ (400 < L.length ∨ 400 < S.length ∨ 400 < ids.length) → aN L S ids = true → ∀ W : World, aJ W ar L L.length → bi W br S S.length → bF W ir ids ids.length → Calls Tryz.prog 43 #[.slice ar L.length cr, .slice br S.length dr, .slice ir ids.length er] W fun e w' => e = .returned (rt (eN L S ids)) ∧ Below W.heap.size W w') := yz (fun hb h W h1 h2 h3 => by
  have e : eN L S ids = (if (ap L S ids ids.length).length < 2 then ((0, 0, 0, 0), 10) else dw (ap L S ids ids.length) (ax 625)) := by
   by_cases h2 : (ap L S ids ids.length).length < 2
   ·rw [if_pos h2]; exact qs hb h h2
   ·rw [if_neg h2]; exact jl hb h h2
  rw [e]
  exact pG L S ids ar br ir cr dr er W h h1 h2 h3)
 have H1 : Hid (400 < L.length ∨ 400 < S.length ∨ 400 < ids.length → eN L S ids = ((0, 0, 0, 0), 2)) := yz ow
 have H2 : Hid (¬ (400 < L.length ∨ 400 < S.length ∨ 400 < ids.length) → aN L S ids = false → eN L S ids = ((0, 0, 0, 0), 1)) := yz ov
 have HS := yz hS
 have HD := yz hD
 have HI := yz hI
 clear hS hD hI
 generalize eN L S ids = R at *
 generalize aN L S ids = nb at *
 generalize S.length = m at *
 generalize ids.length = k at *
 generalize L.length = n at *
 have R0 := aO w [.int .i64 0, .int .i64 0, .int .i64 0, .int .i64 0, .int .i64 0] 42
 have B0 := ak w (.cells #[.int .i64 0, .int .i64 0, .int .i64 0, .int .i64 0, .int .i64 0] 42)
 by_cases hbig : 400 < n ∨ 400 < m ∨ 400 < k
 ·obtain rfl := yy H1 hbig
  have h' : 400 < n ∨ (¬ 400 < n ∧ 400 < m) ∨ (¬ 400 < n ∧ ¬ 400 < m ∧ 400 < k) := by omega
  rcases h' with h | ⟨h, h1⟩ | ⟨h, h1, h2⟩
  ·have g1 : decide ((400 : Int) < (n : Int)) = true := by simp; omega
   have g2 : (400 : Int) < (n : Int) := by omega
   go_enter Tryz.func17, Tryz.ntmps17
   go_wp2_with fail
   exact bodyPost_ret (v := .agg #[.int .i64 0, .int .i64 0, .int .i64 0, .int .i64 0, .int .i64 2]) (by simp [results, Tryz.results17, go_sem]) rfl ⟨rfl, ak _ _⟩
  ·have g1 : decide ((400 : Int) < (n : Int)) = false := by simp; omega
   have g2 : ¬ (400 : Int) < (n : Int) := by omega
   have g3 : decide ((400 : Int) < (m : Int)) = true := by simp; omega
   have g4 : (400 : Int) < (m : Int) := by omega
   go_enter Tryz.func17, Tryz.ntmps17
   go_wp2_with fail
   exact bodyPost_ret (v := .agg #[.int .i64 0, .int .i64 0, .int .i64 0, .int .i64 0, .int .i64 2]) (by simp [results, Tryz.results17, go_sem]) rfl ⟨rfl, ak _ _⟩
  ·have g1 : decide ((400 : Int) < (n : Int)) = false := by simp; omega
   have g2 : ¬ (400 : Int) < (n : Int) := by omega
   have g3 : decide ((400 : Int) < (m : Int)) = false := by simp; omega
   have g4 : ¬ (400 : Int) < (m : Int) := by omega
   have g5 : decide ((400 : Int) < (k : Int)) = true := by simp; omega
   have g6 : (400 : Int) < (k : Int) := by omega
   go_enter Tryz.func17, Tryz.ntmps17
   go_wp2_with fail
   exact bodyPost_ret (v := .agg #[.int .i64 0, .int .i64 0, .int .i64 0, .int .i64 0, .int .i64 2]) (by simp [results, Tryz.results17, go_sem]) rfl ⟨rfl, ak _ _⟩
 have g1 : decide ((400 : Int) < (n : Int)) = false := by simp; omega
 have g2 : ¬ (400 : Int) < (n : Int) := by omega
 have g3 : decide ((400 : Int) < (m : Int)) = false := by simp; omega
 have g4 : ¬ (400 : Int) < (m : Int) := by omega
 have g5 : decide ((400 : Int) < (k : Int)) = false := by simp; omega
 have g6 : ¬ (400 : Int) < (k : Int) := by omega
 go_enter Tryz.func17, Tryz.ntmps17
 go_wp2_with fail
 generalize w.alloc (.cells #[.int .i64 0, .int .i64 0, .int .i64 0, .int .i64 0, .int .i64 0] 42) = W0 at R0 B0 ⊢
 refine (yy cN _ ((yy HS).kept B0) ((yy HD).kept B0) ((yy HI).kept B0)).mono ?_
 rintro e W1 ⟨rfl, hx⟩
 have R1 := R0.kept hx
 have B1 := aj B0 hx
 clear hx R0 B0
 cases nb
 ·obtain rfl := yy H2 hbig rfl
  obtain ⟨r0, r1, r2, r3, r4⟩ := kD (R1)
  obtain ⟨f0, f1, f2, f3, f4⟩ := mW (R1)
  go_wp2_with fail
  exact bodyPost_ret (v := .agg #[.int .i64 0, .int .i64 0, .int .i64 0, .int .i64 0, .int .i64 1]) (by simp [results, Tryz.results17, go_sem, r0, r1, r2, r3, r4]) rfl ⟨rfl, bV B1 (Nat.le_refl _) _ _ _ _ _⟩
 have cO' := yz (yy cO hbig rfl)
 clear cO H1 H2 cN hbig g1 g2 g3 g4 g5 g6
 obtain ⟨⟨t1, t2, t3, t4⟩, tc⟩ := R
 have cO2 : Hid (∀ W : World, aJ W ar L n → bi W br S m → bF W ir ids k → Calls Tryz.prog 43 #[.slice ar n cr, .slice br m dr, .slice ir k er] W fun e w' => e = .returned (.agg #[.int .i64 t1, .int .i64 t2, .int .i64 t3, .int .i64 t4, .int .i64 tc]) ∧ Below W.heap.size W w') := cO'
 clear cO'
 go_wp2_with fail
 refine (yy cO2 _ ((yy HS).kept B1) ((yy HD).kept B1) ((yy HI).kept B1)).mono ?_
 rintro e W2 ⟨rfl, hx⟩
 have R2 := R1.kept hx
 have B2 := aj B1 hx
 obtain ⟨r0, r1, r2, r3, r4⟩ := kD (R2)
 obtain ⟨f0, f1, f2, f3, f4⟩ := mW (R2)
 clear hx R1 B1 cO2
 go_wp2_with fail
 exact bodyPost_ret (v := .agg #[.int .i64 t1, .int .i64 t2, .int .i64 t3, .int .i64 t4, .int .i64 tc]) (by simp [results, Tryz.results17, go_sem, r0, r1, r2, r3, r4]) rfl ⟨rfl, bV B2 (Nat.le_refl _) _ _ _ _ _⟩
end
end Go.Proofs.YtoakkmjcbnfljaaGreatDoor
